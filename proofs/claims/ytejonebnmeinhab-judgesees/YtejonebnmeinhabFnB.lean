/-
  SEAT Ytejonebnmeinhab: judge: wasTaken, keeps, behind.
-/
import Derived.Test.YtejonebnmeinhabBase
namespace Go.Proofs.Ytejonebnmeinhab
open Go.RowKit
set_option linter.unusedVariables false

def taken (s : Int) : Bool := decide (s = 0 ∨ s = 44 ∨ s = 45)

theorem taken_any (s : Int) (w : World) : Calls Try.prog 80 #[.int .i64 s] w fun e w' => e = .returned (.bool (taken s)) ∧ w = w' := by
  by_cases h0 : s = 0
  · subst h0
    go_enter Try.func80, Try.ntmps80
    go_wp2
    go_ret
    exact ⟨rfl, rfl⟩
  · have e0 : (s == 0) = false := by simpa using h0
    by_cases h1 : s = 44
    · subst h1
      go_enter Try.func80, Try.ntmps80
      go_wp2
      go_ret
      exact ⟨rfl, rfl⟩
    · have e1 : (s == 44) = false := by simpa using h1
      go_enter Try.func80, Try.ntmps80
      go_wp2
      go_ret
      refine ⟨ret_bool ?_, rfl⟩
      unfold taken
      simp [h0, h1, Bool.beq_eq_decide_eq]

/-- Does a command keep the rules, by what is known of its block? -/
def kpt (P : Int) (b : Blk) (c : Cmd) : Bool := if c.k = 1 then (!b.m && decide (b.n ≤ c.p ∧ c.p < P)) else if c.k = 2 then !b.m else decide (c.k = 3)

set_option maxHeartbeats 1000000 in
theorem keeps_any (gj : Nat) (P : Int) (b : Blk) (c : Cmd) (w : World) (hp : w.cell? ⟨gj, 1, none⟩ = some (.int .i64 P)) :
    Calls Try.prog 81 #[.pointer (some ⟨gj, 0, none⟩), .agg #[.bool b.m, .int .i64 b.n, .int .i64 b.e], .agg #[.int .i64 c.k, .int .i64 c.b, .int .i64 c.p, .int .i64 c.s]] w fun e w' => e = .returned (.bool (kpt P b c)) ∧ Below w.heap.size w w' := by
  obtain ⟨m, n, e⟩ := b
  obtain ⟨k, bb, p, s⟩ := c
  have hlt : gj < w.heap.size := block_lt_of_cell hp
  have hb2 : ∀ o o' : Obj, Below w.heap.size w ((w.alloc o).alloc o') := fun o o' => ((Below.refl _ _).alloc (Nat.le_refl _) _).alloc (by simp) _
  simp only [kpt]
  by_cases h1 : k = 1
  · subst h1
    have hp2 : ∀ o o' : Obj, ((w.alloc o).alloc o').cell? ⟨gj, 1, none⟩ = some (.int .i64 P) := fun o o' => by rw [(hb2 o o').cell hlt]; exact hp
    cases m with
    | true =>
      go_enter Try.func81, Try.ntmps81
      go_wp2
      go_quiet (fail)
      all_goals go_wp2
      all_goals go_ret
      all_goals exact ⟨ret_bool (by simp), below_drewN (hb2 _ _) _⟩
    | false =>
      by_cases h2 : n ≤ p
      · have hd : decide (n ≤ p) = true := decide_eq_true h2
        go_enter Try.func81, Try.ntmps81
        go_wp2
        go_quiet (fail)
        all_goals go_wp2
        all_goals go_ret
        all_goals exact ⟨ret_bool (by simp), below_drewN (hb2 _ _) _⟩
      · have hd : decide (n ≤ p) = false := decide_eq_false h2
        go_enter Try.func81, Try.ntmps81
        go_wp2
        go_quiet (fail)
        all_goals go_wp2
        all_goals go_ret
        all_goals exact ⟨ret_bool (by simp), below_drewN (hb2 _ _) _⟩
  · have e1 : (k == 1) = false := by simpa using h1
    by_cases h2 : k = 2
    · subst h2
      go_enter Try.func81, Try.ntmps81
      go_wp2
      go_ret
      exact ⟨ret_bool (by simp), hb2 _ _⟩
    · have e2 : (k == 2) = false := by simpa using h2
      by_cases h3 : k = 3
      · subst h3
        go_enter Try.func81, Try.ntmps81
        go_wp2
        go_ret
        exact ⟨ret_bool (by simp), hb2 _ _⟩
      · have e3 : (k == 3) = false := by simpa using h3
        go_enter Try.func81, Try.ntmps81
        go_wp2
        go_ret
        exact ⟨ret_bool (by simp), hb2 _ _⟩

/-- What is known of a block behind a command. -/
def bhd (P : Int) (b : Blk) (c : Cmd) : Blk :=
  if c.k = 1 then ⟨b.m, c.p + 1, b.e⟩ else if c.k = 2 then ⟨b.m, if c.s = 0 then 0 else P, wrap64 (b.e + 1)⟩ else if c.k = 3 then ⟨b.m || decide (c.s = 0), b.n, b.e⟩ else b

set_option maxHeartbeats 1000000 in
theorem behind_any (gj : Nat) (P : Int) (b : Blk) (c : Cmd) (w : World) (hp : w.cell? ⟨gj, 1, none⟩ = some (.int .i64 P)) (hw : -9223372036854775808 ≤ c.p + 1) (hw' : c.k = 1 → c.p + 1 ≤ 9223372036854775807) :
    Calls Try.prog 82 #[.pointer (some ⟨gj, 0, none⟩), .agg #[.bool b.m, .int .i64 b.n, .int .i64 b.e], .agg #[.int .i64 c.k, .int .i64 c.b, .int .i64 c.p, .int .i64 c.s]] w fun e w' => e = .returned (bhd P b c).val ∧ Below w.heap.size w w' := by
  obtain ⟨m, n, e⟩ := b
  obtain ⟨k, bb, p, s⟩ := c
  have hlt : gj < w.heap.size := block_lt_of_cell hp
  have hne : gj ≠ w.heap.size := by omega
  have hb3 : ∀ o o' o'' : Obj, Below w.heap.size w (((w.alloc o).alloc o').alloc o'') := fun o o' o'' => (((Below.refl _ _).alloc (Nat.le_refl _) _).alloc (by simp) _).alloc (by simp; omega) _
  have hp3 : ∀ o o' o'' : Obj, (((w.alloc o).alloc o').alloc o'').cell? ⟨gj, 1, none⟩ = some (.int .i64 P) := fun o o' o'' => by rw [(hb3 o o' o'').cell hlt]; exact hp
  simp only [bhd]
  by_cases h1 : k = 1
  · subst h1
    have hw2 := hw' rfl
    simp only at hw hw2
    go_enter Try.func82, Try.ntmps82
    go_wp2
    refine bodyPost_ret (v := .agg #[.bool m, .int .i64 (p + 1), .int .i64 e]) (by simp [results, Try.results82, go_sem]) rfl ⟨rfl, hb3 _ _ _⟩
  · have e1 : (k == 1) = false := by simpa using h1
    by_cases h2 : k = 2
    · subst h2
      by_cases h4 : s = 0
      · subst h4
        go_enter Try.func82, Try.ntmps82
        go_wp2
        refine bodyPost_ret (v := .agg #[.bool m, .int .i64 0, .int .i64 (wrap64 (e + 1))]) (by simp [results, Try.results82, go_sem]) rfl ⟨rfl, hb3 _ _ _⟩
      · have e4 : (s == 0) = false := by simpa using h4
        go_enter Try.func82, Try.ntmps82
        go_wp2
        refine bodyPost_ret (v := .agg #[.bool m, .int .i64 P, .int .i64 (wrap64 (e + 1))]) (by simp [results, Try.results82, go_sem]) rfl ⟨?_, hb3 _ _ _⟩
        simp [Blk.val]
    · have e2 : (k == 2) = false := by simpa using h2
      by_cases h3 : k = 3
      · subst h3
        cases m with
        | true =>
          go_enter Try.func82, Try.ntmps82
          go_wp2
          refine bodyPost_ret (v := .agg #[.bool true, .int .i64 n, .int .i64 e]) (by simp [results, Try.results82, go_sem]) rfl ⟨rfl, hb3 _ _ _⟩
        | false =>
          by_cases h4 : s = 0
          · subst h4
            go_enter Try.func82, Try.ntmps82
            go_wp2
            refine bodyPost_ret (v := .agg #[.bool true, .int .i64 n, .int .i64 e]) (by simp [results, Try.results82, go_sem]) rfl ⟨rfl, hb3 _ _ _⟩
          · have e4 : (s == 0) = false := by simpa using h4
            go_enter Try.func82, Try.ntmps82
            go_wp2
            refine bodyPost_ret (v := .agg #[.bool false, .int .i64 n, .int .i64 e]) (by simp [results, Try.results82, go_sem]) rfl ⟨?_, hb3 _ _ _⟩
            simp [Blk.val]
      · have e3 : (k == 3) = false := by simpa using h3
        go_enter Try.func82, Try.ntmps82
        go_wp2
        refine bodyPost_ret (v := .agg #[.bool m, .int .i64 n, .int .i64 e]) (by simp [results, Try.results82, go_sem]) rfl ⟨?_, hb3 _ _ _⟩
        simp [Blk.val]
end Go.Proofs.Ytejonebnmeinhab
