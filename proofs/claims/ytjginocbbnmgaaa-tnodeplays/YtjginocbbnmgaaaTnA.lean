/-
  SEAT Ytjginocbbnmgaaa: trees of a fixed width: span, digit.
-/
import Derived.Test.YtjginocbbnmgaaaRows
import Derived.WalkKit
import Derived.WalkSpells
import Derived.WalkSmall
import Derived.ProofKit
import Derived.OpenShut
import Derived.ChangeOld
import Derived.Below
import Derived.BigQuiet
import Derived.Deep.RegionHeld3
import Derived.Test.YtjginocbbnmgaaaTnP
namespace Go.Proofs.Ytjginocbbnmgaaa
open Go.RowKit
set_option linter.unusedVariables false

theorem span_any (d : Nat) (w : World) (hd : d ≤ 5) : Calls Try.prog 54 #[.int .i64 (d : Int)] w fun e w' => e = .returned (.int .i64 (spn d : Nat)) ∧ w = w' := by
  have : d = 0 ∨ d = 1 ∨ d = 2 ∨ d = 3 ∨ d = 4 ∨ d = 5 := by omega
  rcases this with rfl | rfl | rfl | rfl | rfl | rfl
  all_goals
    go_enter Try.func54, Try.ntmps54
    go_wp2
    go_ret
    exact ⟨by rfl, rfl⟩
theorem digit_any (k l : Nat) (w : World) (hl : l ≤ 4) (hk : k < 1048576) : Calls Try.prog 55 #[.int .i64 (k : Int), .int .i64 (l : Int)] w fun e w' => e = .returned (.int .i64 (dig k l : Nat)) ∧ w = w' := by
  have : l = 0 ∨ l = 1 ∨ l = 2 ∨ l = 3 ∨ l = 4 := by omega
  rcases this with rfl | rfl | rfl | rfl | rfl
  all_goals
    go_enter Try.func55, Try.ntmps55
    go_wp2
    go_ret
    refine ⟨congrArg (fun z => Ending.returned (Value.int .i64 z)) ?_, rfl⟩
    simp [dig, spn]

/-- A pointer to a block, or nil. -/
def ptr : Option Nat → Value
  | none => .pointer none
  | some g => .pointer (some ⟨g, 0, none⟩)
/-- The blocks of a world but those that are left out. -/
def seenH (w : World) (E : Nat → Prop) [DecidablePred E] : Nat → Option Obj := fun i => if E i then none else w.heap[i]?
/-- A thing in a block of its own. -/
def ThingOn (H : Nat → Option Obj) : Option Nat → Option Int → Prop
  | none, none => True
  | some g, some x => H g = some (.cells #[.int .i64 x] 3 (0, 0))
  | _, _ => False
/-- A node of the level l, or nil, and what lies at its keys. -/
def NodeOn (H : Nat → Option Obj) : Nat → Option Nat → Mp → Prop
  | 0, none, M => Void M (spn 1)
  | 0, some g, M => ∃ ts : List (Option Nat), ts.length = 16 ∧ H g = some (.cells (List.replicate 16 (Value.pointer none) ++ ts.map ptr).toArray 96 (0, 0)) ∧ (∀ i, i < 16 → ThingOn H (ts.getD i none) (M i)) ∧ ¬ Void M (spn 1)
  | l + 1, none, M => Void M (spn (l + 2))
  | l + 1, some g, M => ∃ bs : List (Option Nat), bs.length = 16 ∧ H g = some (.cells (bs.map ptr ++ List.replicate 16 (Value.pointer none)).toArray 96 (0, 0)) ∧ (∀ i, i < 16 → NodeOn H l (bs.getD i none) (sub M (spn (l + 1)) i)) ∧ ¬ Void M (spn (l + 2))
/-- All that one world shows the other shows too. -/
def Shows (H H' : Nat → Option Obj) : Prop := ∀ i o, H i = some o → H' i = some o
theorem lt_of_block {w : World} {g : Nat} {o : Obj} (h : w.heap[g]? = some o) : g < w.heap.size := by
  rcases Nat.lt_or_ge g w.heap.size with q | q
  · exact q
  · simp [Array.getElem?_eq_none q] at h
theorem seen_block {w : World} {E : Nat → Prop} [DecidablePred E] {g : Nat} {o : Obj} (h : seenH w E g = some o) : ¬ E g ∧ w.heap[g]? = some o := by
  unfold seenH at h
  split at h
  · cases h
  · rename_i q; exact ⟨q, h⟩
theorem seen_of {w : World} {E : Nat → Prop} [DecidablePred E] {g : Nat} {o : Obj} (hE : ¬ E g) (h : w.heap[g]? = some o) : seenH w E g = some o := by
  unfold seenH
  rw [if_neg hE]
  exact h
theorem ThingOn.mono {H H' : Nat → Option Obj} {t : Option Nat} {m : Option Int} (h : ThingOn H t m) (hs : Shows H H') : ThingOn H' t m := by
  cases t with
  | none => cases m with
    | none => trivial
    | some x => cases h
  | some g => cases m with
    | none => cases h
    | some x => exact hs _ _ h
theorem NodeOn.mono {H H' : Nat → Option Obj} (hs : Shows H H') : ∀ {l : Nat} {o : Option Nat} {M : Mp}, NodeOn H l o M → NodeOn H' l o M
  | 0, none, M, h => h
  | 0, some g, M, ⟨ts, h1, h2, h3, h4⟩ => ⟨ts, h1, hs _ _ h2, fun i hi => (h3 i hi).mono hs, h4⟩
  | l + 1, none, M, h => h
  | l + 1, some g, M, ⟨bs, h1, h2, h3, h4⟩ => ⟨bs, h1, hs _ _ h2, fun i hi => NodeOn.mono hs (h3 i hi), h4⟩
/-- What an older world shows a younger one shows, if nothing that is left out anew is old. -/
theorem shows_below {w w' : World} {E E' : Nat → Prop} [DecidablePred E] [DecidablePred E'] (hb : Below w.heap.size w w') (hE : ∀ i, i < w.heap.size → E' i → E i) : Shows (seenH w E) (seenH w' E') := fun i o h => by
  obtain ⟨h1, h2⟩ := seen_block h
  have hl := lt_of_block h2
  exact seen_of (fun q => h1 (hE i hl q)) ((hb.block i hl).trans h2)
theorem void_congr {M M' : Mp} {s : Nat} (h : ∀ k, k < s → M k = M' k) (hv : Void M s) : Void M' s := fun k hk => by rw [← h k hk]; exact hv k hk
theorem NodeOn.congr {H : Nat → Option Obj} : ∀ {l : Nat} {o : Option Nat} {M M' : Mp}, (∀ k, k < spn (l + 1) → M k = M' k) → NodeOn H l o M → NodeOn H l o M'
  | 0, none, M, M', hc, h => void_congr hc h
  | 0, some g, M, M', hc, ⟨ts, h1, h2, h3, h4⟩ => ⟨ts, h1, h2, fun i hi => by rw [← hc i hi]; exact h3 i hi, fun q => h4 (void_congr (fun k hk => (hc k hk).symm) q)⟩
  | l + 1, none, M, M', hc, h => void_congr hc h
  | l + 1, some g, M, M', hc, ⟨bs, h1, h2, h3, h4⟩ => ⟨bs, h1, h2, fun i hi => NodeOn.congr (fun k hk => hc _ (by rw [spn_succ (l + 1)]; exact sub_lt hi hk)) (h3 i hi), fun q => h4 (void_congr (fun k hk => (hc k hk).symm) q)⟩
theorem NodeOn.void {H : Nat → Option Obj} {l : Nat} {M : Mp} (h : Void M (spn (l + 1))) : NodeOn H l none M := by
  cases l with
  | zero => exact h
  | succ l => exact h
theorem NodeOn.isVoid {H : Nat → Option Obj} {l : Nat} {M : Mp} (h : NodeOn H l none M) : Void M (spn (l + 1)) := by
  cases l with
  | zero => exact h
  | succ l => exact h
theorem not_void_upd (M : Mp) {k s : Nat} (v : Int) (hk : k < s) : ¬ Void (upd M k v) s := fun h => by
  have := h k hk
  unfold upd at this
  rw [if_pos rfl] at this
  cases this
end Go.Proofs.Ytjginocbbnmgaaa
