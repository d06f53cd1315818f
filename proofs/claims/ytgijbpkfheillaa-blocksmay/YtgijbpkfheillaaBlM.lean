/-
  SEAT Ytgijbpkfheillaa: the reference's New, refused.
-/
import Derived.Test.YtgijbpkfheillaaBlK
namespace Go.Proofs.Ytgijbpkfheillaa
open Go.RowKit
set_option linter.unusedVariables false

set_option maxHeartbeats 2000000 in
theorem rnew_bad (b P s3 : Int) (a : Option Addr) (len cap : Nat) (cur last : Int) (bs : List Bk) (w : World) (hr : ReadsK w a len bs) (hl : len ≤ 140737488355000) (h : newE b P s3 len cur last bs ≠ 0) :
    Calls Try.prog 33 #[.agg #[.int .i64 b, .int .i64 P, .int .i64 s3], .slice a len cap, .int .i64 cur, .int .i64 last] w fun e w' => e = .returned (.tuple #[.pointer none, .int .i64 (newE b P s3 len cur last bs)]) ∧ Below w.heap.size w w' := by
  obtain ⟨E, hE⟩ : ∃ E, newE b P s3 len cur last bs = E := ⟨_, rfl⟩
  have hw := new_ways b P s3 len cur last bs h
  rw [hE] at hw h ⊢
  rcases hw with ⟨f1, e1⟩ | ⟨f1, f2, e1⟩ | ⟨f1, f2, f3, e1⟩ | ⟨f1, f2, f3, f4, e1⟩ | ⟨f1, f2, f3, f4, f5, e1⟩
  · subst e1
    go_enter Try.func33, Try.ntmps33
    go_wp2_with (first | (go_at_call 66; refine (rfits_any _ _ _ _).mono ?_; rintro e u1 ⟨rfl, q1⟩; rw [f1]; obtain ⟨c0, c1, c2⟩ := box3 q1; have Q1 : Hid (Below (w.alloc (.cells #[.int .i64 b, .int .i64 P, .int .i64 s3] 23)).heap.size (w.alloc (.cells #[.int .i64 b, .int .i64 P, .int .i64 s3] 23)) u1) := q1; clear q1))
    go_ret2
    exact ⟨rfl, below1 Q1.out⟩
  · subst e1
    have d1 : ((len : Int) != b) = true := by simpa using f2
    go_enter Try.func33, Try.ntmps33
    go_wp2_with (first | (go_at_call 66; refine (rfits_any _ _ _ _).mono ?_; rintro e u1 ⟨rfl, q1⟩; rw [f1]; obtain ⟨c0, c1, c2⟩ := box3 q1; have Q1 : Hid (Below (w.alloc (.cells #[.int .i64 b, .int .i64 P, .int .i64 s3] 23)).heap.size (w.alloc (.cells #[.int .i64 b, .int .i64 P, .int .i64 s3] 23)) u1) := q1; clear q1))
    go_ret2
    exact ⟨rfl, below1 Q1.out⟩
  · subst e1
    subst f2
    have q3 := of_decide_eq_false f3
    have d1 : ((len : Int) != len) = false := by simp
    by_cases q4 : cur < -1
    · go_enter Try.func33, Try.ntmps33
      go_wp2_with (first | (go_at_call 66; refine (rfits_any _ _ _ _).mono ?_; rintro e u1 ⟨rfl, q1⟩; rw [f1]; obtain ⟨c0, c1, c2⟩ := box3 q1; have Q1 : Hid (Below (w.alloc (.cells #[.int .i64 (len : Int), .int .i64 P, .int .i64 s3] 23)).heap.size (w.alloc (.cells #[.int .i64 (len : Int), .int .i64 P, .int .i64 s3] 23)) u1) := q1; clear q1))
      go_ret2
      exact ⟨rfl, below1 Q1.out⟩
    · have q5 : (len : Int) ≤ cur := by omega
      go_enter Try.func33, Try.ntmps33
      go_wp2_with (first | (go_at_call 66; refine (rfits_any _ _ _ _).mono ?_; rintro e u1 ⟨rfl, q1⟩; rw [f1]; obtain ⟨c0, c1, c2⟩ := box3 q1; have Q1 : Hid (Below (w.alloc (.cells #[.int .i64 (len : Int), .int .i64 P, .int .i64 s3] 23)).heap.size (w.alloc (.cells #[.int .i64 (len : Int), .int .i64 P, .int .i64 s3] 23)) u1) := q1; clear q1))
      go_ret2
      exact ⟨rfl, below1 Q1.out⟩
  · subst e1
    subst f2
    have q3 := of_decide_eq_true f3
    have q4 := of_decide_eq_false f4
    have d1 : ((len : Int) != len) = false := by simp
    have d2 : ¬ (cur < -1) := by omega
    have d3 : ¬ ((len : Int) ≤ cur) := by omega
    by_cases q5 : last < -1
    · go_enter Try.func33, Try.ntmps33
      go_wp2_with (first | (go_at_call 66; refine (rfits_any _ _ _ _).mono ?_; rintro e u1 ⟨rfl, q1⟩; rw [f1]; obtain ⟨c0, c1, c2⟩ := box3 q1; have Q1 : Hid (Below (w.alloc (.cells #[.int .i64 (len : Int), .int .i64 P, .int .i64 s3] 23)).heap.size (w.alloc (.cells #[.int .i64 (len : Int), .int .i64 P, .int .i64 s3] 23)) u1) := q1; clear q1))
      go_ret2
      exact ⟨rfl, below1 Q1.out⟩
    · have q6 : (len : Int) ≤ last := by omega
      go_enter Try.func33, Try.ntmps33
      go_wp2_with (first | (go_at_call 66; refine (rfits_any _ _ _ _).mono ?_; rintro e u1 ⟨rfl, q1⟩; rw [f1]; obtain ⟨c0, c1, c2⟩ := box3 q1; have Q1 : Hid (Below (w.alloc (.cells #[.int .i64 (len : Int), .int .i64 P, .int .i64 s3] 23)).heap.size (w.alloc (.cells #[.int .i64 (len : Int), .int .i64 P, .int .i64 s3] 23)) u1) := q1; clear q1))
      go_ret2
      exact ⟨rfl, below1 Q1.out⟩
  · subst e1
    subst f2
    have q3 := of_decide_eq_true f3
    have q4 := of_decide_eq_true f4
    have hp : 4 ≤ P ∧ P ≤ 256 := by have := fits_b f1; omega
    have hb9 := fits_b f1
    have d1 : ((len : Int) != len) = false := by simp
    have d2 : ¬ (cur < -1) := by omega
    have d3 : ¬ ((len : Int) ≤ cur) := by omega
    have d4 : ¬ (last < -1) := by omega
    have d5 : ¬ ((len : Int) ≤ last) := by omega
    go_enter Try.func33, Try.ntmps33
    go_wp2_with (first | (go_at_call 66; refine (rfits_any _ _ _ _).mono ?_; rintro e u1 ⟨rfl, q1⟩; rw [f1]; obtain ⟨c0, c1, c2⟩ := box3 q1; have Q1 : Hid (Below (w.alloc (.cells #[.int .i64 (len : Int), .int .i64 P, .int .i64 s3] 23)).heap.size (w.alloc (.cells #[.int .i64 (len : Int), .int .i64 P, .int .i64 s3] 23)) u1) := q1; clear q1) | (go_at_call 25; refine (rmay_any _ _ a len cap bs _ (hr.below (below1 Q1.out)) ?_ hp).mono ?_; omega; rintro e u4 ⟨rfl, q4⟩; rw [f5]; have Q4 : Hid (Below w.heap.size w u4) := (below1 Q1.out).trans (q4.mono (below1 Q1.out).size); clear q4))
    go_ret2
    exact ⟨rfl, Q4.out⟩
end Go.Proofs.Ytgijbpkfheillaa
