/-
  SEAT Ytgijbpkfheillaa: small calls of the book: logged, Open, older, Near.
-/
import Derived.Test.YtgijbpkfheillaaRoB
namespace Go.Proofs.Ytgijbpkfheillaa
open Go.RowKit
set_option linter.unusedVariables false

def loggedB (s : Int) (lf : Bool) : Bool := (s == 1) || (s == 2) || ((s == 4) && !lf)
theorem logged_any (s h : Int) (r : Bool) (l : Int) (lf : Bool) (w : World) : Calls Try.prog 39 #[.agg #[.int .i64 s, .int .u64 h, .bool r, .int .i64 l, .bool lf]] w fun e w' => e = .returned (.bool (loggedB s lf)) ∧ Below w.heap.size w w' := by
  by_cases s1 : s = 1
  · subst s1
    go_enter Try.func39, Try.ntmps39
    go_wp2
    go_ret
    exact ⟨ret_bool rfl, (Below.refl _ _).alloc (Nat.le_refl _) _⟩
  · have s1b : (s == 1) = false := by simpa using s1
    by_cases s2 : s = 2
    · subst s2
      go_enter Try.func39, Try.ntmps39
      go_wp2
      go_ret
      exact ⟨ret_bool rfl, (Below.refl _ _).alloc (Nat.le_refl _) _⟩
    · have s2b : (s == 2) = false := by simpa using s2
      by_cases s4 : s = 4
      · subst s4
        go_enter Try.func39, Try.ntmps39
        go_wp2
        go_ret
        exact ⟨ret_bool (by simp [loggedB]), (Below.refl _ _).alloc (Nat.le_refl _) _⟩
      · have s4b : (s == 4) = false := by simpa using s4
        go_enter Try.func39, Try.ntmps39
        go_wp2
        go_ret
        exact ⟨ret_bool (by simp [loggedB, s1, s2, s4]), (Below.refl _ _).alloc (Nat.le_refl _) _⟩

theorem box5 {w u : World} {s h : Int} {r : Bool} {l : Int} {lf : Bool} (q : Below (w.alloc (.cells #[.int .i64 s, .int .u64 h, .bool r, .int .i64 l, .bool lf] 71)).heap.size (w.alloc (.cells #[.int .i64 s, .int .u64 h, .bool r, .int .i64 l, .bool lf] 71)) u) :
    u.cell? ⟨w.heap.size, 0, none⟩ = some (.int .i64 s) ∧ u.cell? ⟨w.heap.size, 1, none⟩ = some (.int .u64 h) ∧ u.cell? ⟨w.heap.size, 2, none⟩ = some (.bool r) ∧ u.cell? ⟨w.heap.size, 3, none⟩ = some (.int .i64 l) ∧ u.cell? ⟨w.heap.size, 4, none⟩ = some (.bool lf) := by
  refine ⟨?_, ?_, ?_, ?_, ?_⟩ <;> (rw [q.cell (by simp)]; simp)

/-- The first of the first k entries that is open. -/
def openF (es : List Ent) : Nat → Option Nat
  | 0 => none
  | k + 1 => match openF es k with
    | some i => some i
    | none => if (es.getD k Ent.zero).s = 2 then some k else none
theorem openF_none_le {es : List Ent} {n : Nat} (h : openF es n = none) : ∀ i, i < n → (es.getD i Ent.zero).s ≠ 2 := by
  induction n with
  | zero => intro i hi; omega
  | succ n ih =>
    rw [openF] at h
    cases ho : openF es n with
    | some j => rw [ho] at h; cases h
    | none =>
      rw [ho] at h
      intro i hi
      by_cases e : i = n
      · subst e
        intro hc
        simp only [hc, if_true] at h
        cases h
      · exact ih ho i (by omega)
theorem openF_some {es : List Ent} {n i : Nat} (h : openF es n = some i) : i < n ∧ (es.getD i Ent.zero).s = 2 := by
  induction n with
  | zero => cases h
  | succ n ih =>
    rw [openF] at h
    cases ho : openF es n with
    | some j =>
      rw [ho] at h
      cases h
      have := ih ho
      exact ⟨by omega, this.2⟩
    | none =>
      rw [ho] at h
      simp only at h
      split at h
      · rename_i hc
        cases h
        exact ⟨by omega, hc⟩
      · cases h
theorem openF_mono {es : List Ent} {k i : Nat} (h : openF es k = some i) : ∀ n, k ≤ n → openF es n = some i := by
  intro n hn
  induction n with
  | zero => obtain rfl : k = 0 := by omega
            exact h
  | succ n ih =>
    by_cases e : k = n + 1
    · subst e; exact h
    · rw [openF, ih (by omega)]
def openV (es : List Ent) : Value := match openF es es.length with
  | some i => .tuple #[.int .i64 (i : Nat), .bool true]
  | none => .tuple #[.int .i64 0, .bool false]

set_option maxHeartbeats 1000000 in
theorem open_any (gb gk : Nat) (P : Int) (es : List Ent) (cur last vic : Int) (w : World) (h : BookAt w gb gk P es cur last vic) (hn : es.length ≤ 5000) :
    Calls Try.prog 19 #[.pointer (some ⟨gb, 0, none⟩)] w fun e w' => e = .returned (openV es) ∧ Below w.heap.size w w' := by
  obtain ⟨c0, c1, c2, c3, c4⟩ := h.cells
  have HB : Hid (BookAt w gb gk P es cur last vic) := h
  clear h
  go_enter Try.func19, Try.ntmps19
  go_wp2
  go_loopw [4, 5, 11] (fun s4 s5 s11 wr => ∃ k : Nat, k ≤ es.length ∧ s11 = .int .i64 k ∧ Hid (openF es k = none) ∧ Below w.heap.size w wr)
    (fun _ _ i _ => es.length - (intOf i).toNat)
  case atStart => exact ⟨0, Nat.zero_le _, rfl, rfl, Below.refl _ _⟩
  case round =>
    obtain ⟨k, hk, rfl, HO, hb⟩ := hrel
    by_cases hlt : k < es.length
    · obtain ⟨e0, e1, e2, e3, e4⟩ := (HB.out.below hb).entry k hlt
      obtain ⟨X, hX⟩ : ∃ X, es.getD k Ent.zero = X := ⟨_, rfl⟩
      have HX : Hid _ := hX
      rw [hX] at e0 e1 e2 e3 e4
      obtain ⟨s, h, r, l, lf⟩ := X
      simp only at e0 e1 e2 e3 e4
      have d1 : (k : Int) < es.length := by omega
      clear hX
      by_cases s0 : s = 2
      · subst s0
        have HF : Hid (openF es es.length = some k) := by
          refine openF_mono (k := k + 1) ?_ _ (by omega)
          rw [openF, HO.out, HX.out]
          rfl
        go_wp2
        go_ret2
        exact ⟨by unfold openV; rw [HF.out]; rfl, by first | exact hb | exact ba hb⟩
      · have s0b : (s == 2) = false := by simpa using s0
        go_wp2
        go_roundw
        case rel => exact ⟨k + 1, by omega, by go_num, by unfold Hid; rw [openF, HO.out, HX.out]; simp [s0], by first | exact hb | exact ba hb⟩
        case measure => simp [intOf]; omega
    · have hkn : k = es.length := by omega
      subst hkn
      go_wp2
      go_ret2
      exact ⟨by unfold openV; rw [HO.out]; rfl, hb⟩

def optI : Option Nat → Int
  | none => -1
  | some a => (a : Int)
/-- Whether an entry's Head is the less. -/
def olderB (es : List Ent) (n : Nat) (o : Option Nat) : Bool := match o with
  | none => true
  | some a => decide ((es.getD n Ent.zero).h < (es.getD a Ent.zero).h)
set_option maxHeartbeats 1000000 in
theorem older_any (gb gk : Nat) (P : Int) (es : List Ent) (cur last vic : Int) (n : Nat) (o : Option Nat) (w : World) (h : BookAt w gb gk P es cur last vic) (hl : es.length ≤ 5000) (hn : n < es.length) (ho : ∀ a, o = some a → a < es.length) :
    Calls Try.prog 50 #[.pointer (some ⟨gb, 0, none⟩), .int .i64 n, .int .i64 (optI o)] w fun e w' => e = .returned (.bool (olderB es n o)) ∧ ∃ q, w' = w.drewN q := by
  obtain ⟨c0, c1, c2, c3, c4⟩ := h.cells
  obtain ⟨_, e1, _, _, _⟩ := h.entry n hn
  have d1 : (n : Int) < es.length := by omega
  cases o with
  | none =>
    have oI : optI none = -1 := rfl
    rw [oI]
    clear h
    go_enter Try.func50, Try.ntmps50
    go_wp2
    go_quiet (fail)
    go_wp2
    go_ret
    exact ⟨rfl, _, rfl⟩
  | some a =>
    obtain ⟨_, f1, _, _, _⟩ := h.entry a (ho a rfl)
    have d2 : (a : Int) < es.length := by have := ho a rfl; omega
    have d3 : ((a : Int) == -1) = false := by simp
    obtain ⟨x, hx⟩ : ∃ x, (es.getD n Ent.zero).h = x := ⟨_, rfl⟩
    obtain ⟨y, hy⟩ : ∃ y, (es.getD a Ent.zero).h = y := ⟨_, rfl⟩
    rw [hx] at e1
    rw [hy] at f1
    have HX : Hid _ := hx
    have HY : Hid _ := hy
    clear hx hy h
    have oI : optI (some a) = (a : Int) := rfl
    rw [oI]
    go_enter Try.func50, Try.ntmps50
    go_wp2
    go_quiet (fail)
    go_wp2
    go_ret
    exact ⟨ret_bool (by unfold olderB; simp only; rw [HX.out, HY.out]), _, rfl⟩
end Go.Proofs.Ytgijbpkfheillaa
