/-
  SEAT Ytejonebnmeinhab: JudgeTurns, its walk.
-/
import Derived.Test.YtejonebnmeinhabFnG
namespace Go.Proofs.Ytejonebnmeinhab
open Go.RowKit
set_option linter.unusedVariables false

theorem take_front {α : Type} {xs ys : List α} {n : Nat} (h : xs.length = n) : (xs ++ ys).take n = xs := by subst h; simp

theorem tail2_ok {cs : List Cmd} (h : ∀ c ∈ cs, c.Ok) : ∀ c ∈ cs ++ tail2, c.Ok := by
  intro c hc
  rcases List.mem_append.1 hc with h1 | h1
  · exact h c h1
  · simp [tail2] at h1
    rcases h1 with rfl | rfl <;> exact ⟨⟨by decide, by decide⟩, ⟨by decide, by decide⟩, ⟨by decide, by decide⟩, ⟨by decide, by decide⟩⟩

/-- A copy of marks, of a trace, reads as they do. -/
theorem marksR {w : World} {B g len c : Nat} {bs : List Bool} (hl : bs.length = len) (h : w.ownsRow B 4 1 (.slice (some ⟨g, 0, none⟩) (len + 3) c) (len + 3) ((bs ++ [true, false, true]).map Value.bool)) : ReadsB w (some ⟨g, 0, none⟩) len bs := by
  have := own_readsB h (show len ≤ len + 3 by omega)
  rwa [take_front hl] at this
theorem traceR {w : World} {B g n c : Nat} {cs : List Cmd} (hl : cs.length = n) (hok : ∀ x ∈ cs, x.Ok) (h : w.ownsRow B 73 4 (.slice (some ⟨g, 0, none⟩) (n + 2) c) (n + 2) (flat (cs ++ tail2))) : ReadsC w (some ⟨g, 0, none⟩) n cs := by
  have := own_readsC h (tail2_ok hok) (show n ≤ n + 2 by omega)
  rwa [take_front hl] at this

theorem box_cells {w u : World} {b p s : Int} (h : (w.alloc (.cells #[.int .i64 b, .int .i64 p, .int .i64 s] 23)).grownBy u none) :
    u.cell? ⟨w.heap.size, 0, none⟩ = some (.int .i64 b) ∧ u.cell? ⟨w.heap.size, 1, none⟩ = some (.int .i64 p) ∧ u.cell? ⟨w.heap.size, 2, none⟩ = some (.int .i64 s) := by
  refine ⟨?_, ?_, ?_⟩ <;> exact h.cell (by simp) (by simp)

set_option maxHeartbeats 4000000 in
set_option maxRecDepth 100000 in
theorem turns_bad (b p s : Int) (a1 a3 a4 : Option Addr) (len cap n cap3 n4 cap4 : Nat) (bs : List Bool) (cs : List Cmd) (clean : Bool) (w : World) (hb : ReadsB w a1 len bs) (hl : len ≤ 140737488351232) (hc : ReadsC w a3 n cs) (hn : n * 32 ≤ 140737488355264) (hE : newE b p s len ≠ 0) :
    Calls Try.prog 4 #[.agg #[.int .i64 b, .int .i64 p, .int .i64 s], .slice a1 len cap, .bool clean, .slice a3 n cap3, .slice a4 n4 cap4] w fun e w' => e = .returned (.bool true) ∧ Below w.heap.size w w' := by
  have hb0 : Below w.heap.size w (w.alloc (.cells #[.int .i64 b, .int .i64 p, .int .i64 s] 23)) := (Below.refl _ _).alloc (Nat.le_refl _) _
  obtain ⟨w0, hw0⟩ : ∃ w0, w0 = w.alloc (.cells #[.int .i64 b, .int .i64 p, .int .i64 s] 23) := ⟨_, rfl⟩
  have hS : ∀ x, w0.grownBy x none → x.cell? ⟨w.heap.size, 0, none⟩ = some (.int .i64 b) ∧ x.cell? ⟨w.heap.size, 1, none⟩ = some (.int .i64 p) ∧ x.cell? ⟨w.heap.size, 2, none⟩ = some (.int .i64 s) := fun x hx => box_cells (by rw [hw0] at hx; exact hx)
  rw [← hw0] at hb0
  have hlen := hb.1
  obtain ⟨E, hEE⟩ : ∃ E, newE b p s len = E := ⟨_, rfl⟩
  have e1 : (E == 0) = false := by rw [← hEE]; simpa using hE
  have hl2 : len ≤ 140737488355000 := by omega
  go_enter Try.func4, Try.ntmps4
  go_wp2_with (first
    | (go_at_call 21; refine (rnew_any b p s _ _ _ _ hl2).mono ?_; rintro e u1 ⟨rfl, bel1⟩; rw [hEE]; rw [← hw0] at bel1; have g1 := grown_of bel1 none; have bw1 := below_trans hb0 bel1; obtain ⟨c0, c1, c2⟩ := hS _ g1))
  go_region_held3 (fun x => w0.grownBy x none ∧ x.cell? ⟨w.heap.size, 0, none⟩ = some (.int .i64 b) ∧ x.cell? ⟨w.heap.size, 1, none⟩ = some (.int .i64 p) ∧ x.cell? ⟨w.heap.size, 2, none⟩ = some (.int .i64 s))
    ((refine (fun hx => ⟨hx, hS _ hx⟩) ?_; first | exact gb_drew g1 | exact g4 | exact g3 | exact g2))
    (first
      | (go_at_call 23; refine (marks_any _ _ _ bs _ hl ?_).mono ?_; exact hb.below bw1.drew; rintro e u2 ⟨gm, cm, rfl, hcm, ownm, belm⟩; have g2 := grownBy_trans (gb_drew g1) (grown_of belm none); have bw2 := below_trans bw1.drew belm)
      | (go_at_call 24; refine (trace_any _ _ _ cs _ hn ?_).mono ?_; exact hc.below bw2; rintro e u3 ⟨gt, ct, rfl, hct, ownt, belt⟩; have g3 := grownBy_trans g2 (grown_of belt none); have bw3 := below_trans bw2 belt)
      | (go_at_call 22; refine (check_bad b p s _ _ _ _ _ _ _ _ hl2 hE).mono ?_; rintro e u4 ⟨rfl, belk⟩; rw [hEE]; have g4 := grownBy_trans g3 (grown_of belk none); have bw4 := below_trans bw3 belk))
  go_wp2
  go_region_held3 (fun x => w0.grownBy x none ∧ x.cell? ⟨w.heap.size, 0, none⟩ = some (.int .i64 b) ∧ x.cell? ⟨w.heap.size, 1, none⟩ = some (.int .i64 p) ∧ x.cell? ⟨w.heap.size, 2, none⟩ = some (.int .i64 s))
    ((refine (fun hx => ⟨hx, hS _ hx⟩) ?_; first | exact gb_drew g4 | exact g6 | exact g5))
    (first
      | (go_at_call 23; refine (marks_any _ _ _ bs _ hl ?_).mono ?_; exact hb.below bw4.drew; rintro e u5 ⟨gm5, cm5, rfl, hcm5, ownm5, belm5⟩; have g5 := grownBy_trans (gb_drew g4) (grown_of belm5 none); have bw5 := below_trans bw4.drew belm5)
      | (go_at_call 25; refine (new_bad b p s _ _ _ _ _ hl2 hE).mono ?_; rintro e u6 ⟨rfl, belk6⟩; rw [hEE]; have g6 := grownBy_trans g5 (grown_of belk6 none); have bw6 := below_trans bw5 belk6))
  go_wp2
  go_region_held3 (fun x => w0.grownBy x none ∧ x.cell? ⟨w.heap.size, 0, none⟩ = some (.int .i64 b) ∧ x.cell? ⟨w.heap.size, 1, none⟩ = some (.int .i64 p) ∧ x.cell? ⟨w.heap.size, 2, none⟩ = some (.int .i64 s))
    ((refine (fun hx => ⟨hx, hS _ hx⟩) ?_; first | exact gb_drew g6 | exact g8 | exact g7))
    (first
      | (go_at_call 23; refine (marks_any _ _ _ bs _ hl ?_).mono ?_; exact hb.below bw6.drew; rintro e u7 ⟨gm7, cm7, rfl, hcm7, ownm7, belm7⟩; have g7 := grownBy_trans (gb_drew g6) (grown_of belm7 none); have bw7 := below_trans bw6.drew belm7)
      | (go_at_call 25; refine (new_bad b p s _ _ _ _ _ hl2 hE).mono ?_; rintro e u8 ⟨rfl, belk8⟩; rw [hEE]; have g8 := grownBy_trans g7 (grown_of belk8 none); have bw8 := below_trans bw7 belk8))
  go_wp2
  go_ret
  exact ⟨rfl, bw8⟩

theorem JudgeAt.far {w w' : World} {gj bm r : Nat} {b p s : Int} {st : List Blk} (h : JudgeAt w gj b p s bm st) (hg : w.grownBy w' (some r)) (h1 : gj ≠ r) (h2 : bm ≠ r) : JudgeAt w' gj b p s bm st :=
  ⟨hg.cell h.c0 (by simpa using h1), hg.cell h.c1 (by simpa using h1), hg.cell h.c2 (by simpa using h1), hg.cell h.c3 (by simpa using h1), h.knows.grown hg (by simpa using h2), h.ne⟩

theorem see_mark0 {P : Int} {st : List Blk} (h : 0 < st.length) : (see P st ⟨3, 0, 0, 0⟩).isSome = true := by
  unfold see
  rw [if_pos ⟨by simp, by simpa using h, rfl, rfl⟩]
  rfl
theorem see_out {P : Int} {st : List Blk} (b : Int) (h : (st.length : Int) = b) : see P st ⟨3, b, 0, 0⟩ = none := by
  unfold see
  rw [if_neg (by simp only; omega)]

/-- The place of the first false, while it is looked for. -/
theorem first_step {P : Int} {st sta : List Blk} {cs : List Cmd} {k : Nat} {c : Cmd} (hk : cs[k]? = some c) {f : Int} (hf : f = chkI (chk P st (cs.take k))) (hr : f < 0 → runs P st (cs.take k) = some sta) :
    (see P sta c = none → f < 0 → chkI (chk P st (cs.take (k + 1))) = k) ∧ (0 ≤ f → chkI (chk P st (cs.take (k + 1))) = f) ∧ (∀ st2, see P sta c = some st2 → f < 0 → chkI (chk P st (cs.take (k + 1))) = f ∧ runs P st (cs.take (k + 1)) = some st2) := by
  obtain ⟨hlt, hget⟩ := List.getElem?_eq_some_iff.1 hk
  have e : cs.take (k + 1) = cs.take k ++ [c] := by rw [List.take_succ_eq_append_getElem hlt, hget]
  refine ⟨fun h1 h2 => ?_, fun h1 => ?_, fun st2 h1 h2 => ?_⟩
  · rw [e, chk_append, hr h2]
    simp [chk, h1, chkI]
    omega
  · rw [e, chk_append]
    cases hru : runs P st (cs.take k) with
    | none => exact hf.symm
    | some st' =>
      have : chk P st (cs.take k) = none := chk_runs.2 (by rw [hru]; rfl)
      rw [this] at hf
      simp [chkI] at hf
      omega
  · have h3 := runs_step hk (hr h2) h1
    refine ⟨?_, h3⟩
    have e1 : chk P st (cs.take (k + 1)) = none := chk_runs.2 (by rw [h3]; rfl)
    have e2 : chk P st (cs.take k) = none := chk_runs.2 (by rw [hr h2]; rfl)
    rw [hf, e1, e2]

theorem see_x (gj bm : Nat) (b p s : Int) (st : List Blk) (k cb cp cs : Int) (w : World) (h : JudgeAt w gj b p s bm st) (hc : (Cmd.mk k cb cp cs).Ok) (hp : 4 ≤ p ∧ p ≤ 256) (hl : st.length < 100000) :
    Calls Try.prog 26 #[.pointer (some ⟨gj, 0, none⟩), .agg #[.int .i64 k, .int .i64 cb, .int .i64 cp, .int .i64 cs]] w fun e w' => e = .returned (.bool (see p st ⟨k, cb, cp, cs⟩).isSome) ∧ JudgeAt w' gj b p s bm ((see p st ⟨k, cb, cp, cs⟩).getD st) ∧ w.grownBy w' (some bm) :=
  see_any gj bm b p s st ⟨k, cb, cp, cs⟩ w h hc hp hl

theorem getD_len {P : Int} {st : List Blk} {c : Cmd} {len : Nat} (h : st.length = len) : ((see P st c).getD st).length = len := by
  cases hs : see P st c with
  | none => simpa using h
  | some st' => simpa [see_length hs] using h

end Go.Proofs.Ytejonebnmeinhab
