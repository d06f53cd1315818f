/-
  SEAT Ytnopljjngbgpdaa: Diff that is refused.
-/
import Derived.Test.YtnopljjngbgpdaaK
import Derived.Test.YtnopljjngbgpdaaJ
import Derived.Handy
namespace Go.Proofs.Ytnopljjngbgpdaa
open Go.RowKit
set_option linter.unusedVariables false

theorem box2i {w u : World} {b q s b' q' s' : Int} {vc vm vc' vm' : Value} (h : ((w.alloc (.cells #[.int .i64 b, .int .i64 q, .int .i64 s, vc, vm] 27)).alloc (.cells #[.int .i64 b', .int .i64 q', .int .i64 s', vc', vm'] 27)).grownBy u none) :
    (u.cell? ⟨w.heap.size, 0, none⟩ = some (.int .i64 b) ∧ u.cell? ⟨w.heap.size, 1, none⟩ = some (.int .i64 q) ∧ u.cell? ⟨w.heap.size, 2, none⟩ = some (.int .i64 s) ∧ u.cell? ⟨w.heap.size, 3, none⟩ = some vc ∧ u.cell? ⟨w.heap.size, 4, none⟩ = some vm) ∧
    (u.cell? ⟨w.heap.size + 1, 0, none⟩ = some (.int .i64 b') ∧ u.cell? ⟨w.heap.size + 1, 1, none⟩ = some (.int .i64 q') ∧ u.cell? ⟨w.heap.size + 1, 2, none⟩ = some (.int .i64 s') ∧ u.cell? ⟨w.heap.size + 1, 3, none⟩ = some vc' ∧ u.cell? ⟨w.heap.size + 1, 4, none⟩ = some vm') := by
  have e1 : (w.alloc (.cells #[.int .i64 b, .int .i64 q, .int .i64 s, vc, vm] 27)).heap.size = w.heap.size + 1 := by simp
  have a0 : ((w.alloc (.cells #[.int .i64 b, .int .i64 q, .int .i64 s, vc, vm] 27)).alloc (.cells #[.int .i64 b', .int .i64 q', .int .i64 s', vc', vm'] 27)).heap[w.heap.size]? = some (.cells #[.int .i64 b, .int .i64 q, .int .i64 s, vc, vm] 27) := by
    rw [Below.heap_alloc _ _ _ (by simp)]; exact heap_alloc_new _ _
  have a1 : ((w.alloc (.cells #[.int .i64 b, .int .i64 q, .int .i64 s, vc, vm] 27)).alloc (.cells #[.int .i64 b', .int .i64 q', .int .i64 s', vc', vm'] 27)).heap[w.heap.size + 1]? = some (.cells #[.int .i64 b', .int .i64 q', .int .i64 s', vc', vm'] 27) := by
    rw [← e1]; exact heap_alloc_new _ _
  have c0 := (h.block w.heap.size (by simp; omega) (by simp)).trans a0
  have c1 := (h.block (w.heap.size + 1) (by simp) (by simp)).trans a1
  clear h a0 a1 e1
  refine ⟨⟨?_, ?_, ?_, ?_, ?_⟩, ⟨?_, ?_, ?_, ?_, ?_⟩⟩
  all_goals first | (simp [World.cell?, c0]; done) | (simp [World.cell?, c1]; done)

/-- What Diff answers as its error. -/
def difE (b q s b' q' s' E1 E2 : Int) : Int := if E1 = 0 then (if E2 = 0 then (if b = b' ∧ q = q' ∧ s = s' then 0 else 40) else E2) else E1

set_option maxHeartbeats 2000000 in
set_option maxRecDepth 100000 in
theorem rDiff_err (b q s b' q' s' : Int) (a1 a2 a3 a4 : Option Addr) (n1 c1 n2 c2 n3 c3 n4 c4 : Nat) (w : World) (h1 : n1 ≤ 140737488355000) (h2 : n2 ≤ 140737488355000) (h3 : n3 ≤ 140737488355000) (h4 : n4 ≤ 140737488355000)
    (hE : difE b q s b' q' s' (chkE b q s n1 n2) (chkE b' q' s' n3 n4) ≠ 0) :
    Calls Try.prog 15 #[.agg #[.int .i64 b, .int .i64 q, .int .i64 s, .slice a1 n1 c1, .slice a2 n2 c2], .agg #[.int .i64 b', .int .i64 q', .int .i64 s', .slice a3 n3 c3, .slice a4 n4 c4]] w fun e w' =>
      e = .returned (.tuple #[.slice none 0 0, .int .i64 (difE b q s b' q' s' (chkE b q s n1 n2) (chkE b' q' s' n3 n4))]) ∧ Below w.heap.size w w' := by
  obtain ⟨E1, hE1⟩ : ∃ E, chkE b q s n1 n2 = E := ⟨_, rfl⟩
  obtain ⟨E2, hE2⟩ : ∃ E, chkE b' q' s' n3 n4 = E := ⟨_, rfl⟩
  rw [hE1, hE2] at hE ⊢
  have HE1 : Hid _ := hE1
  have HE2 : Hid _ := hE2
  have HN : Hid (n1 ≤ 140737488355000 ∧ n2 ≤ 140737488355000 ∧ n3 ≤ 140737488355000 ∧ n4 ≤ 140737488355000) := ⟨h1, h2, h3, h4⟩
  have HB0 : Hid (Below w.heap.size w ((w.alloc (.cells #[.int .i64 b, .int .i64 q, .int .i64 s, .slice a1 n1 c1, .slice a2 n2 c2] 27)).alloc (.cells #[.int .i64 b', .int .i64 q', .int .i64 s', .slice a3 n3 c3, .slice a4 n4 c4] 27))) := (below_alloc w _).alloc (below_alloc w _).size _
  clear hE1 hE2 h1 h2 h3 h4
  cases k1 : (E1 == 0) with
  | false =>
    have k1' : ¬ E1 = 0 := by simpa using k1
    have k2 : (E1 != 0) = true := by simpa using k1'
    have hd : difE b q s b' q' s' E1 E2 = E1 := by unfold difE; rw [if_neg k1']
    rw [hd]
    clear hE hd k1'
    go_enter Try.func15, Try.ntmps15
    go_wp2_with (go_at_call 9; refine (rcheck_any b q s a1 a2 n1 c1 n2 c2 _ HN.out.1 HN.out.2.1).mono ?_; rintro e u1 ⟨rfl, b1⟩; rw [HE1.out]; obtain ⟨⟨x0, x1, x2, x3, x4⟩, y0, y1, y2, y3, y4⟩ := box2i (grown_of b1 none))
    go_ret2
    exact ⟨rfl, below_trans HB0.out b1⟩
  | true =>
    have k1' : E1 = 0 := by simpa using k1
    subst k1'
    cases k3 : (E2 == 0) with
    | false =>
      have k3' : ¬ E2 = 0 := by simpa using k3
      have k4 : (E2 != 0) = true := by simpa using k3'
      have hd : difE b q s b' q' s' 0 E2 = E2 := by unfold difE; rw [if_pos rfl, if_neg k3']
      rw [hd]
      clear hE hd k3'
      go_enter Try.func15, Try.ntmps15
      go_wp2_with (first
        | (go_at_call 9; have zz := M1; refine (rcheck_any b' q' s' a3 a4 n3 c3 n4 c4 _ HN.out.2.2.1 HN.out.2.2.2).mono ?_; rintro e u2 ⟨rfl, b2⟩; rw [HE2.out]; clear x0 x1 x2 x3 x4 y0 y1 y2 y3 y4; obtain ⟨⟨x0, x1, x2, x3, x4⟩, y0, y1, y2, y3, y4⟩ := box2i (grownBy_trans (grown_of b1 none) (grown_of b2 none)))
        | (go_at_call 9; refine (rcheck_any b q s a1 a2 n1 c1 n2 c2 _ HN.out.1 HN.out.2.1).mono ?_; rintro e u1 ⟨rfl, b1⟩; rw [HE1.out]; obtain ⟨⟨x0, x1, x2, x3, x4⟩, y0, y1, y2, y3, y4⟩ := box2i (grown_of b1 none); have M1 : Hid True := trivial))
      go_ret2
      exact ⟨rfl, below_trans HB0.out (below_trans b1 b2)⟩
    | true =>
      have k3' : E2 = 0 := by simpa using k3
      subst k3'
      have hne : ¬ (b = b' ∧ q = q' ∧ s = s') := fun e => hE (by unfold difE; rw [if_pos rfl, if_pos rfl, if_pos e])
      have hd : difE b q s b' q' s' 0 0 = 40 := by unfold difE; rw [if_pos rfl, if_pos rfl, if_neg hne]
      rw [hd]
      clear hE hd
      go_enter Try.func15, Try.ntmps15
      go_wp2_with (first
        | (go_at_call 9; have zz := M1; refine (rcheck_any b' q' s' a3 a4 n3 c3 n4 c4 _ HN.out.2.2.1 HN.out.2.2.2).mono ?_; rintro e u2 ⟨rfl, b2⟩; rw [HE2.out]; clear x0 x1 x2 x3 x4 y0 y1 y2 y3 y4; obtain ⟨⟨x0, x1, x2, x3, x4⟩, y0, y1, y2, y3, y4⟩ := box2i (grownBy_trans (grown_of b1 none) (grown_of b2 none)))
        | (go_at_call 9; refine (rcheck_any b q s a1 a2 n1 c1 n2 c2 _ HN.out.1 HN.out.2.1).mono ?_; rintro e u1 ⟨rfl, b1⟩; rw [HE1.out]; obtain ⟨⟨x0, x1, x2, x3, x4⟩, y0, y1, y2, y3, y4⟩ := box2i (grown_of b1 none); have M1 : Hid True := trivial))
      all_goals
        go_ret2
        exact ⟨rfl, below_trans HB0.out (below_trans b1 b2)⟩

end Go.Proofs.Ytnopljjngbgpdaa
