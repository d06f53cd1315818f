/-
  SEAT Ytgijbpkfheillaa: New, refused.
-/
import Derived.Test.YtgijbpkfheillaaBlF
import Derived.Test.YtgijbpkfheillaaBlJ
namespace Go.Proofs.Ytgijbpkfheillaa
open Go.RowKit
set_option linter.unusedVariables false

/-- What both New answer, as an error. -/
def newE (b P s3 : Int) (len : Nat) (cur last : Int) (bs : List Bk) : Int :=
  if Fits b P s3 then (if (len : Int) = b ∧ -1 ≤ cur ∧ cur < b ∧ -1 ≤ last ∧ last < b then (if mayOk P last bs then 0 else 110) else 41) else 40
theorem box3 {w u : World} {b p s : Int} (h : Below (w.alloc (.cells #[.int .i64 b, .int .i64 p, .int .i64 s] 23)).heap.size (w.alloc (.cells #[.int .i64 b, .int .i64 p, .int .i64 s] 23)) u) :
    u.cell? ⟨w.heap.size, 0, none⟩ = some (.int .i64 b) ∧ u.cell? ⟨w.heap.size, 1, none⟩ = some (.int .i64 p) ∧ u.cell? ⟨w.heap.size, 2, none⟩ = some (.int .i64 s) := by
  refine ⟨?_, ?_, ?_⟩ <;> (rw [h.cell (by simp)]; simp)
theorem fits_b {b p s : Int} (h : Fits b p s = true) : 8 ≤ b ∧ b ≤ 4096 ∧ 4 ≤ p ∧ p ≤ 256 := by
  have := of_decide_eq_true h
  omega

/-- The ways in which New refuses. -/
theorem new_ways (b P s3 : Int) (len : Nat) (cur last : Int) (bs : List Bk) (h : newE b P s3 len cur last bs ≠ 0) :
    (Fits b P s3 = false ∧ newE b P s3 len cur last bs = 40) ∨ (Fits b P s3 = true ∧ (len : Int) ≠ b ∧ newE b P s3 len cur last bs = 41) ∨ (Fits b P s3 = true ∧ (len : Int) = b ∧ numOk b cur = false ∧ newE b P s3 len cur last bs = 41) ∨ (Fits b P s3 = true ∧ (len : Int) = b ∧ numOk b cur = true ∧ numOk b last = false ∧ newE b P s3 len cur last bs = 41) ∨ (Fits b P s3 = true ∧ (len : Int) = b ∧ numOk b cur = true ∧ numOk b last = true ∧ mayOk P last bs = false ∧ newE b P s3 len cur last bs = 110) := by
  unfold newE at *
  cases hf : Fits b P s3 with
  | false => left; simp
  | true =>
    right
    by_cases h1 : (len : Int) = b
    · by_cases h2 : numOk b cur = true
      · by_cases h3 : numOk b last = true
        · have q2 := of_decide_eq_true h2
          have q3 := of_decide_eq_true h3
          have q : (len : Int) = b ∧ -1 ≤ cur ∧ cur < b ∧ -1 ≤ last ∧ last < b := ⟨h1, q2.1, q2.2, q3.1, q3.2⟩
          rw [hf, if_pos rfl, if_pos q] at h
          cases hm : mayOk P last bs with
          | true => rw [hm] at h; exact absurd rfl h
          | false => right; right; right; exact ⟨rfl, h1, h2, h3, rfl, by rw [if_pos rfl, if_pos q]; rfl⟩
        · have q3 := of_decide_eq_false (Bool.eq_false_iff.2 h3)
          right; right; left
          exact ⟨rfl, h1, h2, Bool.eq_false_iff.2 h3, by rw [if_pos rfl, if_neg (by omega)]⟩
      · have q2 := of_decide_eq_false (Bool.eq_false_iff.2 h2)
        right; left
        exact ⟨rfl, h1, Bool.eq_false_iff.2 h2, by rw [if_pos rfl, if_neg (by omega)]⟩
    · left
      exact ⟨rfl, h1, by rw [if_pos rfl, if_neg (by omega)]⟩

set_option maxHeartbeats 2000000 in
theorem new_bad (b P s3 : Int) (a : Option Addr) (len cap : Nat) (cur last : Int) (bs : List Bk) (w : World) (hr : ReadsK w a len bs) (hl : len ≤ 140737488355000) (h : newE b P s3 len cur last bs ≠ 0) :
    Calls Try.prog 26 #[.agg #[.int .i64 b, .int .i64 P, .int .i64 s3], .slice a len cap, .int .i64 cur, .int .i64 last] w fun e w' => e = .returned (.tuple #[.pointer none, .int .i64 (newE b P s3 len cur last bs)]) ∧ Below w.heap.size w w' := by
  obtain ⟨E, hE⟩ : ∃ E, newE b P s3 len cur last bs = E := ⟨_, rfl⟩
  have hb0 : Below w.heap.size w (w.alloc (.cells #[.int .i64 b, .int .i64 P, .int .i64 s3] 23)) := (Below.refl _ _).alloc (Nat.le_refl _) _
  have hw := new_ways b P s3 len cur last bs h
  rw [hE] at hw h ⊢
  rcases hw with ⟨f1, e1⟩ | ⟨f1, f2, e1⟩ | ⟨f1, f2, f3, e1⟩ | ⟨f1, f2, f3, f4, e1⟩ | ⟨f1, f2, f3, f4, f5, e1⟩
  · subst e1
    go_enter Try.func26, Try.ntmps26
    go_wp2_with (first | (go_at_call 47; refine (shape_any _ _ _ _).mono ?_; rintro e u1 ⟨rfl, q1⟩; rw [f1]; have Q1 : Hid _ := q1; clear q1))
    go_ret2
    exact ⟨rfl, below1 Q1.out⟩
  · subst e1
    have d1 : ((len : Int) != b) = true := by simpa using f2
    go_enter Try.func26, Try.ntmps26
    go_wp2_with (first | (go_at_call 47; refine (shape_any _ _ _ _).mono ?_; rintro e u1 ⟨rfl, q1⟩; rw [f1]; obtain ⟨c0, c1, c2⟩ := box3 q1; have Q1 : Hid _ := q1; clear q1))
    go_ret2
    exact ⟨rfl, below1 Q1.out⟩
  · subst e1
    subst f2
    go_enter Try.func26, Try.ntmps26
    go_wp2_with (first | (go_at_call 47; refine (shape_any _ _ _ _).mono ?_; rintro e u1 ⟨rfl, q1⟩; rw [f1]; obtain ⟨c0, c1, c2⟩ := box3 q1; have Q1 : Hid _ := q1; clear q1) | (go_at_call 48; refine (num_any _ _ _ _ _).mono ?_; rintro e u2 ⟨rfl, q2⟩; rw [f3]; have Q2 : Hid _ := q2; clear q2))
    go_ret2
    exact ⟨rfl, (below1 Q1.out).trans (Q2.out.mono (below1 Q1.out).size)⟩
  · subst e1
    subst f2
    go_enter Try.func26, Try.ntmps26
    go_wp2_with (first | (go_at_call 47; refine (shape_any _ _ _ _).mono ?_; rintro e u1 ⟨rfl, q1⟩; rw [f1]; obtain ⟨c0, c1, c2⟩ := box3 q1; have Q1 : Hid (Below (w.alloc (.cells #[.int .i64 (len : Int), .int .i64 P, .int .i64 s3] 23)).heap.size (w.alloc (.cells #[.int .i64 (len : Int), .int .i64 P, .int .i64 s3] 23)) u1) := q1; clear q1) | (go_at_call 48; have h9 := Q1; clear h9; refine (num_any _ _ _ _ _).mono ?_; rintro e u2 ⟨rfl, q2⟩; rw [f3]; have Q2 : Hid (Below (w.alloc (.cells #[.int .i64 (len : Int), .int .i64 P, .int .i64 s3] 23)).heap.size (w.alloc (.cells #[.int .i64 (len : Int), .int .i64 P, .int .i64 s3] 23)) u2) := Q1.out.trans (q2.mono Q1.out.size); clear c0 c1 c2 Q1 q2; obtain ⟨c0, c1, c2⟩ := box3 Q2.out) | (go_at_call 48; have h9 := Q2; clear h9; refine (num_any _ _ _ _ _).mono ?_; rintro e u3 ⟨rfl, q3⟩; rw [f4]; have Q3 : Hid (Below (w.alloc (.cells #[.int .i64 (len : Int), .int .i64 P, .int .i64 s3] 23)).heap.size (w.alloc (.cells #[.int .i64 (len : Int), .int .i64 P, .int .i64 s3] 23)) u3) := Q2.out.trans (q3.mono Q2.out.size); clear c0 c1 c2 Q2 q3; obtain ⟨c0, c1, c2⟩ := box3 Q3.out))
    go_ret2
    exact ⟨rfl, below1 Q3.out⟩
  · subst e1
    subst f2
    have hp : 4 ≤ P ∧ P ≤ 256 := by have := fits_b f1; omega
    have hb9 := fits_b f1
    go_enter Try.func26, Try.ntmps26
    go_wp2_with (first | (go_at_call 47; refine (shape_any _ _ _ _).mono ?_; rintro e u1 ⟨rfl, q1⟩; rw [f1]; obtain ⟨c0, c1, c2⟩ := box3 q1; have Q1 : Hid (Below (w.alloc (.cells #[.int .i64 (len : Int), .int .i64 P, .int .i64 s3] 23)).heap.size (w.alloc (.cells #[.int .i64 (len : Int), .int .i64 P, .int .i64 s3] 23)) u1) := q1; clear q1) | (go_at_call 48; have h9 := Q1; clear h9; refine (num_any _ _ _ _ _).mono ?_; rintro e u2 ⟨rfl, q2⟩; rw [f3]; have Q2 : Hid (Below (w.alloc (.cells #[.int .i64 (len : Int), .int .i64 P, .int .i64 s3] 23)).heap.size (w.alloc (.cells #[.int .i64 (len : Int), .int .i64 P, .int .i64 s3] 23)) u2) := Q1.out.trans (q2.mono Q1.out.size); clear c0 c1 c2 Q1 q2; obtain ⟨c0, c1, c2⟩ := box3 Q2.out) | (go_at_call 48; have h9 := Q2; clear h9; refine (num_any _ _ _ _ _).mono ?_; rintro e u3 ⟨rfl, q3⟩; rw [f4]; have Q3 : Hid (Below (w.alloc (.cells #[.int .i64 (len : Int), .int .i64 P, .int .i64 s3] 23)).heap.size (w.alloc (.cells #[.int .i64 (len : Int), .int .i64 P, .int .i64 s3] 23)) u3) := Q2.out.trans (q3.mono Q2.out.size); clear c0 c1 c2 Q2 q3; obtain ⟨c0, c1, c2⟩ := box3 Q3.out) | (go_at_call 49; refine (may_any _ _ _ _ a len cap bs _ (hr.below (below1 Q3.out)) ?_ hp).mono ?_; omega; rintro e u4 ⟨rfl, q4⟩; rw [f5]; have Q4 : Hid (Below w.heap.size w u4) := (below1 Q3.out).trans (q4.mono (below1 Q3.out).size); clear q4))
    go_ret2
    exact ⟨rfl, Q4.out⟩
end Go.Proofs.Ytgijbpkfheillaa
