/-
  SEAT Ytgijbpkfheillaa: geometries, numbers, a set of heads.
-/
import Derived.Test.YtgijbpkfheillaaBlC
import Derived.Maps.OwnSet
import Derived.Maps.Views
import Derived.Deep.AppendLies
namespace Go.Proofs.Ytgijbpkfheillaa
open Go.RowKit
set_option linter.unusedVariables false

/-- May the geometry be? -/
def Fits (b p s : Int) : Bool := decide (8 ≤ b ∧ b ≤ 4096 ∧ 4 ≤ p ∧ p ≤ 256 ∧ 1 ≤ s ∧ s ≤ 8 ∧ b * p ≤ 65536)

theorem ways (b p s : Int) : b < 8 ∨ (8 ≤ b ∧ 4096 < b) ∨ (8 ≤ b ∧ b ≤ 4096 ∧ p < 4) ∨ (8 ≤ b ∧ b ≤ 4096 ∧ 4 ≤ p ∧ 256 < p) ∨ (8 ≤ b ∧ b ≤ 4096 ∧ 4 ≤ p ∧ p ≤ 256 ∧ s < 1) ∨ (8 ≤ b ∧ b ≤ 4096 ∧ 4 ≤ p ∧ p ≤ 256 ∧ 1 ≤ s ∧ 8 < s) ∨
    (8 ≤ b ∧ b ≤ 4096 ∧ 4 ≤ p ∧ p ≤ 256 ∧ 1 ≤ s ∧ s ≤ 8 ∧ 0 ≤ b * p ∧ b * p ≤ 1048576) := by
  by_cases h : 8 ≤ b ∧ b ≤ 4096 ∧ 4 ≤ p ∧ p ≤ 256
  · have h1 : 0 ≤ b * p := Int.mul_nonneg (by omega) (by omega)
    have h2 : b * p ≤ 4096 * 256 := Int.mul_le_mul (by omega) (by omega) (by omega) (by omega)
    omega
  · omega

def geo (b p s : Int) : Value := .agg #[.int .i64 b, .int .i64 p, .int .i64 s]

set_option maxHeartbeats 1000000 in
theorem shape_any (b p s : Int) (w : World) : Calls Try.prog 47 #[.agg #[.int .i64 b, .int .i64 p, .int .i64 s]] w fun e w' => e = .returned (.bool (Fits b p s)) ∧ Below w.heap.size w w' := by
  rcases ways b p s with h | ⟨h1, h⟩ | ⟨h1, h2, h⟩ | ⟨h1, h2, h3, h⟩ | ⟨h1, h2, h3, h4, h⟩ | ⟨h1, h2, h3, h4, h5, h⟩ | ⟨h1, h2, h3, h4, h5, h6, h7, h8⟩
  all_goals
    go_enter Try.func47, Try.ntmps47
    go_wp2
    go_ret
    exact ⟨ret_bool (by first | exact (decide_eq_true (by omega)).symm | exact (decide_eq_false (by omega)).symm | (unfold Fits; rw [decide_eq_decide]; omega)), (Below.refl _ _).alloc (Nat.le_refl _) _⟩

set_option maxHeartbeats 1000000 in
theorem rfits_any (b p s : Int) (w : World) : Calls Try.prog 66 #[.agg #[.int .i64 b, .int .i64 p, .int .i64 s]] w fun e w' => e = .returned (.bool (Fits b p s)) ∧ Below w.heap.size w w' := by
  rcases ways b p s with h | ⟨h1, h⟩ | ⟨h1, h2, h⟩ | ⟨h1, h2, h3, h⟩ | ⟨h1, h2, h3, h4, h⟩ | ⟨h1, h2, h3, h4, h5, h⟩ | ⟨h1, h2, h3, h4, h5, h6, h7, h8⟩
  all_goals
    go_enter Try.func66, Try.ntmps66
    go_wp2
    go_ret
    exact ⟨ret_bool (by first | exact (decide_eq_true (by omega)).symm | exact (decide_eq_false (by omega)).symm | (unfold Fits; rw [decide_eq_decide]; omega)), (Below.refl _ _).alloc (Nat.le_refl _) _⟩

def numOk (b q : Int) : Bool := decide (-1 ≤ q ∧ q < b)
theorem num_any (b p s q : Int) (w : World) : Calls Try.prog 48 #[.agg #[.int .i64 b, .int .i64 p, .int .i64 s], .int .i64 q] w fun e w' => e = .returned (.bool (numOk b q)) ∧ Below w.heap.size w w' := by
  by_cases h0 : -1 ≤ q
  · by_cases h1 : q < b
    · go_enter Try.func48, Try.ntmps48
      go_wp2
      go_ret
      exact ⟨ret_bool (by simp [numOk]; omega), (Below.refl _ _).alloc (Nat.le_refl _) _⟩
    · go_enter Try.func48, Try.ntmps48
      go_wp2
      go_ret
      exact ⟨ret_bool (by simp [numOk]; omega), (Below.refl _ _).alloc (Nat.le_refl _) _⟩
  · go_enter Try.func48, Try.ntmps48
    go_wp2
    go_ret
    exact ⟨ret_bool (by simp [numOk]; omega), (Below.refl _ _).alloc (Nat.le_refl _) _⟩

/-- Nothing, as a map's element. -/
def nilElem : Value → Option (DataW Unit × List MemPlace)
  | .agg cs => match cs.toList with
    | [] => some (.agg [], [])
    | _ => none
  | _ => none
theorem nilElem_mk : nilElem (.agg #[]) = some (.agg [], []) := rfl
theorem nilElem_inv {v : Value} {d : DataW Unit} {ps : List MemPlace} (h : nilElem v = some (d, ps)) : v = .agg #[] := by
  unfold nilElem at h
  split at h
  · rename_i cs
    split at h
    · rename_i hl
      have : cs = #[] := by apply Array.ext'; simpa using hl
      rw [this]
    · cases h
  · cases h
theorem law : Maps.Keyed Try.prog 32 := Maps.int_keyed Try.underlying32
theorem zero93 (w : World) : (zeroValue 93).run Try.prog w = .ok (.agg #[]) w := by kernel_rfl
theorem wf_u {x : Int} (h : 0 ≤ x ∧ x ≤ 18446744073709551615) : (Lit.int .u64 x).wf = true := WalkArith.wf_u64 (by omega)

/-- Block bm is a set of numbers: those of the list. -/
def Heads (w : World) (bm : Nat) (hs : List Int) : Prop :=
  ∃ D, w.ownsMap Try.prog 32 nilElem bm hs.length D ∧ ∀ x : Int, Maps.has D (.int .u64 x) = decide (x ∈ hs)
theorem Heads.grown {w w' : World} {bm : Nat} {hs : List Int} {row : Option Nat} (h : Heads w bm hs) (hg : w.grownBy w' row) (hne : some bm ≠ row) : Heads w' bm hs := by
  obtain ⟨D, h1, h2⟩ := h
  exact ⟨D, h1.kept hg hne, h2⟩
theorem Heads.lt {w : World} {bm : Nat} {hs : List Int} (h : Heads w bm hs) : bm < w.heap.size := by
  obtain ⟨D, h1, _⟩ := h
  exact h1.lt
theorem Heads.look {w : World} {bm : Nat} {hs : List Int} (h : Heads w bm hs) (x : Int) (hx : 0 ≤ x ∧ x ≤ 18446744073709551615) :
    (Instr.lookup 90 (.map (some bm)) (.int .u64 x) true).run Try.prog w = .ok (.tuple #[.agg #[], .bool (decide (x ∈ hs))]) w := by
  obtain ⟨D, ho, hd⟩ := h
  obtain ⟨v, ps, hrun, hv⟩ := ho.look_ok law Try.underlying90 (zero93 w) nilElem_mk (Maps.keyOf_int_mk Try.underlying32 (wf_u hx))
  rw [hrun, hd x, nilElem_inv hv]
theorem isKey (x : Int) : WideAt.IsKeyLit (.int .u64 x) := trivial
theorem int_ne {x y : Int} (h : y ≠ x) : Lit.int .u64 y ≠ Lit.int .u64 x := fun e => h (by injection e)
theorem Heads.add {w : World} {bm : Nat} {hs : List Int} (h : Heads w bm hs) (hl : hs.length < 100000) (x : Int) (hx : 0 ≤ x ∧ x ≤ 18446744073709551615) :
    ∃ w', (Instr.mapUpdate 90 (.map (some bm)) (.int .u64 x) (.agg #[])).run Try.prog w = .ok () w' ∧ Heads w' bm (hs ++ [x]) ∧ w.grownBy w' (some bm) := by
  obtain ⟨D, ho, hd⟩ := h
  obtain ⟨w', hrun, ho', hg⟩ := ho.update law Try.underlying90 (by unfold maxLen; omega) (Maps.keyOf_int_mk Try.underlying32 (wf_u hx)) nilElem_mk
  refine ⟨w', hrun, ⟨_, ho'.mono (by simp), fun y => ?_⟩, hg⟩
  by_cases hy : y = x
  · subst hy
    rw [Maps.has_put_same ho.isMap (isKey _)]
    simp
  · rw [Maps.has_put_other (int_ne hy), hd y, decide_eq_decide]
    simp [hy]
theorem heads_made (w : World) : Heads (w.alloc (.map #[] 0)) w.heap.size [] :=
  ⟨_, World.ownsMap_made w _ _ _, fun x => by simp [Maps.has]⟩
theorem makeMap_len (n : Nat) (u : World) (hn : n ≤ 100000) : (Instr.makeMap 90 (some (.int .i64 (n : Int)))).run Try.prog u = .ok (.map (some u.heap.size)) (u.alloc (.map #[] 0)) := by
  simp [Instr.makeMap, asInt, asIntOf, Result.andThen]
end Go.Proofs.Ytgijbpkfheillaa
