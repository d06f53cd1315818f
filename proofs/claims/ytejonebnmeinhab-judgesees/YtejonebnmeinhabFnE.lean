/-
  SEAT Ytejonebnmeinhab: See.
-/
import Derived.Test.YtejonebnmeinhabFnB
import Derived.Test.YtejonebnmeinhabFnD
namespace Go.Proofs.Ytejonebnmeinhab
open Go.RowKit
set_option linter.unusedVariables false

/-- What a judge knows behind a command that keeps the rules. -/
def see (P : Int) (st : List Blk) (c : Cmd) : Option (List Blk) :=
  if 0 ≤ c.b ∧ c.b < st.length ∧ taken c.s = true ∧ kpt P (st.getD c.b.toNat Blk.zero) c = true then some (st.set c.b.toNat (bhd P (st.getD c.b.toNat Blk.zero) c)) else none

theorem gb_alloc {w x : World} (h : w.grownBy x none) (o : Obj) : w.grownBy (x.alloc o) none := grownBy_trans h (World.grownBy_alloc _ _ _)
theorem gb_drew {w x : World} (h : w.grownBy x none) : w.grownBy x.drew none := grownBy_trans h (drew_grown _ _)
theorem gb_set {w x : World} (h : w.grownBy x none) (a : Addr) (v : Value) (ha : w.heap.size ≤ a.block) : w.grownBy (x.setCell a v) none :=
  ⟨h.os, h.tape, h.output, Nat.le_trans h.size (by simp), fun k hk hr => by rw [Below.heap_setCell _ _ _ _ (by omega)]; exact h.block k hk hr⟩

theorem JudgeAt.grown {w w' : World} {gj bm : Nat} {b p s : Int} {st : List Blk} (h : JudgeAt w gj b p s bm st) (hg : w.grownBy w' none) : JudgeAt w' gj b p s bm st :=
  ⟨hg.cell h.c0 (by simp), hg.cell h.c1 (by simp), hg.cell h.c2 (by simp), hg.cell h.c3 (by simp), h.knows.grown hg (by simp), h.ne⟩

set_option maxHeartbeats 1000000 in
theorem see_miss (gj bm : Nat) (b p s : Int) (st : List Blk) (c : Cmd) (w : World) (h : JudgeAt w gj b p s bm st) (hc : c.Ok) (hm : ¬ (0 ≤ c.b ∧ c.b < st.length)) :
    Calls Try.prog 26 #[.pointer (some ⟨gj, 0, none⟩), .agg #[.int .i64 c.k, .int .i64 c.b, .int .i64 c.p, .int .i64 c.s]] w fun e w' => e = .returned (.bool false) ∧ w.grownBy w' none := by
  obtain ⟨k, cb, cp, cs⟩ := c
  have hL : ∀ u, w.grownBy u none → (Instr.lookup 146 (.map (some bm)) (.int .i64 cb) true).run Try.prog u = .ok (.tuple #[.agg #[.bool false, .int .i64 0, .int .i64 0], .bool false]) u := fun u hu => (h.knows.grown hu (by simp)).miss cb hc.b hm
  have hc3 : ∀ u, w.grownBy u none → u.cell? ⟨gj, 3, none⟩ = some (.map (some bm)) := fun u hu => hu.cell h.c3 (by simp)
  have hlt : gj < w.heap.size := block_lt_of_cell h.c3
  have hg1 : ∀ o, w.grownBy (w.alloc o) none := fun o => World.grownBy_alloc _ _ _
  go_enter Try.func26, Try.ntmps26
  go_wp2
  go_region_held3 (fun w' => w'.cell? ⟨w.heap.size, 1, none⟩ = some (.int .i64 cb) ∧ w.grownBy w' none ∧ w'.cell? ⟨gj, 3, none⟩ = some (.map (some bm)) ∧ (Instr.lookup 146 (.map (some bm)) (.int .i64 cb) true).run Try.prog w' = .ok (.tuple #[.agg #[.bool false, .int .i64 0, .int .i64 0], .bool false]) w')
    ((refine ⟨by simp [*], ?_⟩; refine (fun hg => ⟨hg, hc3 _ hg, hL _ hg⟩) ?_; go_split_ands; repeat' first | exact hg1 _ | assumption | apply gb_drew | apply gb_alloc | (apply gb_set; rotate_left; (simp; done))))
    (fail)
  all_goals go_wp2
  all_goals go_ret
  all_goals exact ⟨rfl, gb_drew (gb_alloc (hg1 _) _)⟩

theorem see_cells {w : World} {k cb cp cs : Int} {m : Bool} {n e : Int} {u : World} (h : (((w.alloc (.cells #[.int .i64 k, .int .i64 cb, .int .i64 cp, .int .i64 cs] 73)).alloc (.cells #[.bool m, .int .i64 n, .int .i64 e] 148)).drew).grownBy u none) :
    u.cell? ⟨w.heap.size, 0, none⟩ = some (.int .i64 k) ∧ u.cell? ⟨w.heap.size, 1, none⟩ = some (.int .i64 cb) ∧ u.cell? ⟨w.heap.size, 2, none⟩ = some (.int .i64 cp) ∧ u.cell? ⟨w.heap.size, 3, none⟩ = some (.int .i64 cs) ∧
    u.cell? ⟨w.heap.size + 1, 0, none⟩ = some (.bool m) ∧ u.cell? ⟨w.heap.size + 1, 1, none⟩ = some (.int .i64 n) ∧ u.cell? ⟨w.heap.size + 1, 2, none⟩ = some (.int .i64 e) := by
  refine ⟨?_, ?_, ?_, ?_, ?_, ?_, ?_⟩ <;> exact h.cell (by simp) (by simp)

set_option maxHeartbeats 2000000 in
theorem see_hit (gj bm : Nat) (b p s : Int) (st : List Blk) (c : Cmd) (w : World) (h : JudgeAt w gj b p s bm st) (hc : c.Ok) (hp : 4 ≤ p ∧ p ≤ 256) (hl : st.length < 100000) (h0 : 0 ≤ c.b) (h1 : c.b < st.length) (B : Blk) (hB : st.getD c.b.toNat Blk.zero = B) :
    Calls Try.prog 26 #[.pointer (some ⟨gj, 0, none⟩), .agg #[.int .i64 c.k, .int .i64 c.b, .int .i64 c.p, .int .i64 c.s]] w fun e w' => if taken c.s = true ∧ kpt p B c = true then e = .returned (.bool true) ∧ JudgeAt w' gj b p s bm (st.set c.b.toNat (bhd p B c)) ∧ w.grownBy w' (some bm) else e = .returned (.bool false) ∧ w.grownBy w' none := by
  obtain ⟨k, cb, cp, cs⟩ := c
  obtain ⟨m, n, er⟩ := B
  have hL : ∀ u, w.grownBy u none → (Instr.lookup 146 (.map (some bm)) (.int .i64 cb) true).run Try.prog u = .ok (.tuple #[.agg #[.bool m, .int .i64 n, .int .i64 er], .bool true]) u := fun u hu => by
    have := (h.knows.grown hu (by simp)).look cb hc.b h0 h1
    rw [hB] at this
    exact this
  have hc3 : ∀ u, w.grownBy u none → u.cell? ⟨gj, 3, none⟩ = some (.map (some bm)) := fun u hu => hu.cell h.c3 (by simp)
  have hlt : gj < w.heap.size := block_lt_of_cell h.c3
  have hg1 : ∀ o, w.grownBy (w.alloc o) none := fun o => World.grownBy_alloc _ _ _
  cases ht : taken cs with
  | false =>
    simp only [Bool.false_eq_true, false_and, if_false]
    go_enter Try.func26, Try.ntmps26
    go_wp2
    go_region_held3 (fun w' => w'.cell? ⟨w.heap.size, 1, none⟩ = some (.int .i64 cb) ∧ w.grownBy w' none ∧ w'.cell? ⟨gj, 3, none⟩ = some (.map (some bm)) ∧ (Instr.lookup 146 (.map (some bm)) (.int .i64 cb) true).run Try.prog w' = .ok (.tuple #[.agg #[.bool m, .int .i64 n, .int .i64 er], .bool true]) w')
      ((refine ⟨by simp [*], ?_⟩; refine (fun hg => ⟨hg, hc3 _ hg, hL _ hg⟩) ?_; go_split_ands; repeat' first | exact hg1 _ | assumption | apply gb_drew | apply gb_alloc | (apply gb_set; rotate_left; (simp; done))))
      (fail)
    all_goals go_wp2_with (first | (go_at_call 80; refine (taken_any _ _).mono ?_; rintro e u ⟨rfl, rfl⟩; rw [ht]))
    all_goals go_ret
    all_goals exact ⟨rfl, gb_drew (gb_alloc (hg1 _) _)⟩
  | true =>
    cases hk : kpt p ⟨m, n, er⟩ ⟨k, cb, cp, cs⟩ with
    | false =>
      simp only [Bool.false_eq_true, and_false, if_false]
      go_enter Try.func26, Try.ntmps26
      go_wp2
      go_region_held3 (fun w' => w'.cell? ⟨w.heap.size, 1, none⟩ = some (.int .i64 cb) ∧ w.grownBy w' none ∧ w'.cell? ⟨gj, 3, none⟩ = some (.map (some bm)) ∧ (Instr.lookup 146 (.map (some bm)) (.int .i64 cb) true).run Try.prog w' = .ok (.tuple #[.agg #[.bool m, .int .i64 n, .int .i64 er], .bool true]) w')
        ((refine ⟨by simp [*], ?_⟩; refine (fun hg => ⟨hg, hc3 _ hg, hL _ hg⟩) ?_; go_split_ands; repeat' first | exact hg1 _ | assumption | apply gb_drew | apply gb_alloc | (apply gb_set; rotate_left; (simp; done))))
        (fail)
      all_goals go_wp2_with (first
        | (go_at_call 80; refine (taken_any _ _).mono ?_; rintro e u ⟨rfl, rfl⟩; rw [ht])
        | (go_at_call 81; refine (keeps_any _ p ⟨m, n, er⟩ ⟨k, cb, cp, cs⟩ _ ?_).mono ?_; exact (gb_drew (gb_alloc (hg1 _) _)).cell h.c1 (by simp); rintro e u1 ⟨rfl, bel1⟩; rw [hk]))
      all_goals go_ret
      all_goals exact ⟨rfl, grownBy_trans (gb_drew (gb_alloc (hg1 _) _)) (grown_of bel1 none)⟩
    | true =>
      simp only [and_self, if_true]
      have hcp : -9223372036854775808 ≤ cp + 1 ∧ (k = 1 → cp + 1 ≤ 9223372036854775807) := by
        have := hc.p
        simp only [Wf] at this
        refine ⟨by omega, fun hk1 => ?_⟩
        simp only [kpt, hk1, if_true, Bool.and_eq_true, decide_eq_true_eq] at hk
        omega
      go_enter Try.func26, Try.ntmps26
      go_wp2
      go_region_held3 (fun w' => w'.cell? ⟨w.heap.size, 1, none⟩ = some (.int .i64 cb) ∧ w.grownBy w' none ∧ w'.cell? ⟨gj, 3, none⟩ = some (.map (some bm)) ∧ (Instr.lookup 146 (.map (some bm)) (.int .i64 cb) true).run Try.prog w' = .ok (.tuple #[.agg #[.bool m, .int .i64 n, .int .i64 er], .bool true]) w')
        ((refine ⟨by simp [*], ?_⟩; refine (fun hg => ⟨hg, hc3 _ hg, hL _ hg⟩) ?_; go_split_ands; repeat' first | exact hg1 _ | assumption | apply gb_drew | apply gb_alloc | (apply gb_set; rotate_left; (simp; done))))
        (fail)
      all_goals go_wp2_with (first
        | (go_at_call 80; refine (taken_any _ _).mono ?_; rintro e u ⟨rfl, rfl⟩; rw [ht])
        | (go_at_call 81; refine (keeps_any _ p ⟨m, n, er⟩ ⟨k, cb, cp, cs⟩ _ ?_).mono ?_; exact (gb_drew (gb_alloc (hg1 _) _)).cell h.c1 (by simp); rintro e u1 ⟨rfl, bel1⟩; rw [hk]; obtain ⟨x0, x1, x2, x3, y0, y1, y2⟩ := see_cells (grown_of bel1 none); have gu1 := grownBy_trans (gb_drew (gb_alloc (hg1 _) _)) (grown_of bel1 none)))
      all_goals
        have hbm := h.knows.lt
        have hne := h.ne
        have c1u := gu1.cell h.c1 (by simp)
        have c3u := gu1.cell h.c3 (by simp)
        have hS : ∀ x, u1.grownBy x (some bm) → x.cell? ⟨gj, 3, none⟩ = some (.map (some bm)) ∧ x.cell? ⟨w.heap.size, 0, none⟩ = some (.int .i64 k) ∧ x.cell? ⟨w.heap.size, 1, none⟩ = some (.int .i64 cb) ∧ x.cell? ⟨w.heap.size, 2, none⟩ = some (.int .i64 cp) ∧ x.cell? ⟨w.heap.size, 3, none⟩ = some (.int .i64 cs) ∧
            x.cell? ⟨w.heap.size + 1, 0, none⟩ = some (.bool m) ∧ x.cell? ⟨w.heap.size + 1, 1, none⟩ = some (.int .i64 n) ∧ x.cell? ⟨w.heap.size + 1, 2, none⟩ = some (.int .i64 er) := fun x hx =>
          ⟨hx.cell c3u (by simp; omega), hx.cell x0 (by simp; omega), hx.cell x1 (by simp; omega), hx.cell x2 (by simp; omega), hx.cell x3 (by simp; omega), hx.cell y0 (by simp; omega), hx.cell y1 (by simp; omega), hx.cell y2 (by simp; omega)⟩
        have ku1 := h.knows.grown gu1 (by simp)
        obtain ⟨V, hV⟩ : ∃ V, (bhd p ⟨m, n, er⟩ ⟨k, cb, cp, cs⟩).val = V := ⟨_, rfl⟩
        have c1d : u1.drew.cell? ⟨gj, 1, none⟩ = some (.int .i64 p) := c1u
        go_region_held3 (fun x => u1.grownBy x (some bm) ∧ x.cell? ⟨gj, 3, none⟩ = some (.map (some bm)) ∧ x.cell? ⟨w.heap.size, 0, none⟩ = some (.int .i64 k) ∧ x.cell? ⟨w.heap.size, 1, none⟩ = some (.int .i64 cb) ∧ x.cell? ⟨w.heap.size, 2, none⟩ = some (.int .i64 cp) ∧ x.cell? ⟨w.heap.size, 3, none⟩ = some (.int .i64 cs) ∧
            x.cell? ⟨w.heap.size + 1, 0, none⟩ = some (.bool m) ∧ x.cell? ⟨w.heap.size + 1, 1, none⟩ = some (.int .i64 n) ∧ x.cell? ⟨w.heap.size + 1, 2, none⟩ = some (.int .i64 er))
          ((refine (fun hx => ⟨hx, hS _ hx⟩) ?_; first | exact drew_grown _ _ | exact g3 | exact g2))
          (first | (go_at_call 82; refine (behind_any gj p ⟨m, n, er⟩ ⟨k, cb, cp, cs⟩ _ c1d hcp.1 hcp.2).mono ?_; rintro e u2 ⟨rfl, bel2⟩; have g2 := grownBy_trans (drew_grown u1 (some bm)) (grown_of bel2 (some bm)); obtain ⟨u3, hrun, hk3, hg3⟩ := Knows.store (ku1.grown (grownBy_trans (drew_grown u1 none) (grown_of bel2 none)) (by simp)) cb hc.b h0 h1 (bhd p ⟨m, n, er⟩ ⟨k, cb, cp, cs⟩) hl; rw [hV] at hrun ⊢; have g3 := grownBy_trans g2 hg3))
        all_goals go_wp2
        all_goals go_ret
        all_goals
          have g4 := grownBy_trans (⟨gu1.os, gu1.tape, gu1.output, gu1.size, fun k hk _ => gu1.block k hk (by simp)⟩ : w.grownBy u1 (some bm)) g3
          exact ⟨rfl, ⟨g4.cell h.c0 (by simp; omega), g4.cell h.c1 (by simp; omega), g4.cell h.c2 (by simp; omega), g4.cell h.c3 (by simp; omega), hk3, hne⟩, g4⟩

theorem see_any (gj bm : Nat) (b p s : Int) (st : List Blk) (c : Cmd) (w : World) (h : JudgeAt w gj b p s bm st) (hc : c.Ok) (hp : 4 ≤ p ∧ p ≤ 256) (hl : st.length < 100000) :
    Calls Try.prog 26 #[.pointer (some ⟨gj, 0, none⟩), .agg #[.int .i64 c.k, .int .i64 c.b, .int .i64 c.p, .int .i64 c.s]] w fun e w' => e = .returned (.bool (see p st c).isSome) ∧ JudgeAt w' gj b p s bm ((see p st c).getD st) ∧ w.grownBy w' (some bm) := by
  have some_of : ∀ {u : World}, w.grownBy u none → w.grownBy u (some bm) := fun g => ⟨g.os, g.tape, g.output, g.size, fun k hk _ => g.block k hk (by simp)⟩
  by_cases hm : 0 ≤ c.b ∧ c.b < st.length
  · refine (see_hit gj bm b p s st c w h hc hp hl hm.1 hm.2 _ rfl).mono fun e w' hr => ?_
    by_cases hk : taken c.s = true ∧ kpt p (st.getD c.b.toNat Blk.zero) c = true
    · rw [if_pos hk] at hr
      have e1 : see p st c = some (st.set c.b.toNat (bhd p (st.getD c.b.toNat Blk.zero) c)) := if_pos ⟨hm.1, hm.2, hk.1, hk.2⟩
      rw [e1]
      exact hr
    · rw [if_neg hk] at hr
      have e1 : see p st c = none := if_neg fun hh => hk ⟨hh.2.2.1, hh.2.2.2⟩
      rw [e1]
      exact ⟨hr.1, h.grown hr.2, some_of hr.2⟩
  · refine (see_miss gj bm b p s st c w h hc hm).mono fun e w' hr => ?_
    have e1 : see p st c = none := if_neg fun hh => hm ⟨hh.1, hh.2.1⟩
    rw [e1]
    exact ⟨hr.1, h.grown hr.2, some_of hr.2⟩
end Go.Proofs.Ytejonebnmeinhab
