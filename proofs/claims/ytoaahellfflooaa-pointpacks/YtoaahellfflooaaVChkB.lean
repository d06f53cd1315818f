/-
  SEAT Ytoaahellfflooaa.
-/
import Derived.Test.YtoaahellfflooaaVChkA
namespace Go.Proofs.Ytoaahellfflooaa
open Go.RowKit
set_option linter.unusedVariables false

def nodeE (k p : Int) (N : ByteArray) (z m st h : Int) (T : ByteArray) : Int := if typeOk k = true ∧ parOk p = true then (if Good N = true then (if sizeOk k z = true ∧ modeOk m = true ∧ shadOk h = true then (if targOk k T = true then 0 else 82) else 80) else 81) else 80
theorem e80 {k p : Int} {N : ByteArray} {z m st h : Int} {T : ByteArray} (q : ¬ (typeOk k = true ∧ parOk p = true)) : Ending.returned (.int .i64 80) = .returned (.int .i64 (nodeE k p N z m st h T)) := by unfold nodeE; rw [if_neg q]
theorem e81 {k p : Int} {N : ByteArray} {z m st h : Int} {T : ByteArray} (q : typeOk k = true ∧ parOk p = true) (q1 : Good N = false) : Ending.returned (.int .i64 81) = .returned (.int .i64 (nodeE k p N z m st h T)) := by unfold nodeE; rw [if_pos q, q1]; rfl
theorem e80b {k p : Int} {N : ByteArray} {z m st h : Int} {T : ByteArray} (q : typeOk k = true ∧ parOk p = true) (q1 : Good N = true) (q2 : ¬ (sizeOk k z = true ∧ modeOk m = true ∧ shadOk h = true)) : Ending.returned (.int .i64 80) = .returned (.int .i64 (nodeE k p N z m st h T)) := by unfold nodeE; rw [if_pos q, if_pos q1, if_neg q2]
theorem e82 {k p : Int} {N : ByteArray} {z m st h : Int} {T : ByteArray} (q : typeOk k = true ∧ parOk p = true) (q1 : Good N = true) (q2 : sizeOk k z = true ∧ modeOk m = true ∧ shadOk h = true) (q3 : targOk k T = false) : Ending.returned (.int .i64 82) = .returned (.int .i64 (nodeE k p N z m st h T)) := by unfold nodeE; rw [if_pos q, if_pos q1, if_pos q2, q3]; rfl
theorem e0 {k p : Int} {N : ByteArray} {z m st h : Int} {T : ByteArray} (q : typeOk k = true ∧ parOk p = true) (q1 : Good N = true) (q2 : sizeOk k z = true ∧ modeOk m = true ∧ shadOk h = true) (q3 : targOk k T = true) : Ending.returned (.int .i64 0) = .returned (.int .i64 (nodeE k p N z m st h T)) := by unfold nodeE; rw [if_pos q, if_pos q1, if_pos q2, if_pos q3]
theorem nameE_t {s : ByteArray} (h : Good s = true) : nameE s = 0 := by simp [nameE, h]
theorem nameE_f {s : ByteArray} (h : Good s = false) : nameE s = 81 := by simp [nameE, h]
theorem below1 {w u : World} {x : Obj} (h : Below (w.alloc x).heap.size (w.alloc x) u) : Below w.heap.size w u :=
  Below.trans ((Below.refl _ _).alloc (Nat.le_refl _) _) (h.mono (by simp))
theorem bel0 (w : World) (x : Obj) : Below (w.alloc x).heap.size (w.alloc x) (w.alloc x) := Below.refl _ _

set_option maxHeartbeats 4000000 in
theorem check_any (k p : Int) (N : ByteArray) (z m st h : Int) (T : ByteArray) (w : World) (hN : N.size ≤ 9223372036854775807) (hTs : T.size ≤ 9223372036854775807) : Calls Try.prog 65 #[.agg #[.int .i64 k, .int .i64 p, .string N, .int .i64 z, .int .i64 m, .int .u64 st, .int .i64 h, .string T]] w fun e w' => e = .returned (.int .i64 (nodeE k p N z m st h T)) ∧ Below w.heap.size w w' := by
  have b1 := bel0 w (.cells #[.int .i64 k, .int .i64 p, .string N, .int .i64 z, .int .i64 m, .int .u64 st, .int .i64 h, .string T] 50)
  cases hT : typeOk k with
  | false =>
    go_enter Try.func65, Try.ntmps65
    go_wp2_with (first
      | (go_at_call 71; refine (type_any _ _).mono ?_; rintro e u ⟨rfl, rfl⟩; rw [hT]))
    go_ret
    exact ⟨e80 (fun q => by simp [hT] at q), below1 b1⟩
  | true =>
  cases hP : decide ((0 : Int) ≤ p ∧ p ≤ 1048575) with
  | false =>
    have hP1 : parOk p = false := hP
    go_enter Try.func65, Try.ntmps65
    go_wp2_with (first
      | (go_at_call 71; refine (type_any _ _).mono ?_; rintro e u ⟨rfl, rfl⟩; rw [hT])
      | (go_at_call 72; refine (within_any _ _ _ _).mono ?_; rintro e u ⟨rfl, rfl⟩; rw [hP]))
    go_ret
    exact ⟨e80 (fun q => by simp [hP1] at q), below1 b1⟩
  | true =>
  have hP1 : parOk p = true := hP
  cases hG0 : Good N with
  | false =>
    have hG := nameE_f hG0
    go_enter Try.func65, Try.ntmps65
    go_wp2_with (first
      | (go_at_call 71; refine (type_any _ _).mono ?_; rintro e u ⟨rfl, rfl⟩; rw [hT])
      | (go_at_call 72; refine (within_any _ _ _ _).mono ?_; rintro e u ⟨rfl, rfl⟩; rw [hP])
      | (go_at_call 73; refine (name_any _ _ hN).mono ?_; rintro e u ⟨rfl, rfl⟩; rw [hG]))
    go_ret
    exact ⟨e81 ⟨hT, hP1⟩ hG0, below1 b1⟩
  | true =>
  have hG := nameE_t hG0
  cases hS : sizeOk k z with
  | false =>
    go_enter Try.func65, Try.ntmps65
    go_wp2_with (first
      | (go_at_call 71; refine (type_any _ _).mono ?_; rintro e u ⟨rfl, rfl⟩; rw [hT])
      | (go_at_call 72; refine (within_any _ _ _ _).mono ?_; rintro e u ⟨rfl, rfl⟩; rw [hP])
      | (go_at_call 73; refine (name_any _ _ hN).mono ?_; rintro e u ⟨rfl, rfl⟩; rw [hG])
      | (go_at_call 74; refine (size_any _ _ _ _ _ _ _ _ _).mono ?_; rintro e u1 ⟨rfl, b2⟩; rw [hS]; obtain ⟨c0, c1, c2, c3, c4, c5, c6, c7⟩ := box8 b2))
    go_ret
    exact ⟨e80b ⟨hT, hP1⟩ hG0 (fun q => by simp [hS] at q), below1 b2⟩
  | true =>
  cases hM : decide ((0 : Int) ≤ m ∧ m ≤ 4095) with
  | false =>
    have hM1 : modeOk m = false := hM
    go_enter Try.func65, Try.ntmps65
    go_wp2_with (first
      | (go_at_call 71; refine (type_any _ _).mono ?_; rintro e u ⟨rfl, rfl⟩; rw [hT])
      | (go_at_call 72; refine (within_any _ _ _ _).mono ?_; rintro e u ⟨rfl, rfl⟩; first | rw [hP] | rw [hM])
      | (go_at_call 73; refine (name_any _ _ hN).mono ?_; rintro e u ⟨rfl, rfl⟩; rw [hG])
      | (go_at_call 74; refine (size_any _ _ _ _ _ _ _ _ _).mono ?_; rintro e u1 ⟨rfl, b2⟩; rw [hS]; obtain ⟨c0, c1, c2, c3, c4, c5, c6, c7⟩ := box8 b2))
    go_ret
    exact ⟨e80b ⟨hT, hP1⟩ hG0 (fun q => by simp [hM1] at q), below1 b2⟩
  | true =>
  have hM1 : modeOk m = true := hM
  cases hH : shadOk h with
  | false =>
    go_enter Try.func65, Try.ntmps65
    go_wp2_with (first
      | (go_at_call 71; refine (type_any _ _).mono ?_; rintro e u ⟨rfl, rfl⟩; rw [hT])
      | (go_at_call 72; refine (within_any _ _ _ _).mono ?_; rintro e u ⟨rfl, rfl⟩; first | rw [hP] | rw [hM])
      | (go_at_call 73; refine (name_any _ _ hN).mono ?_; rintro e u ⟨rfl, rfl⟩; rw [hG])
      | (go_at_call 74; refine (size_any _ _ _ _ _ _ _ _ _).mono ?_; rintro e u1 ⟨rfl, b2⟩; rw [hS]; obtain ⟨c0, c1, c2, c3, c4, c5, c6, c7⟩ := box8 b2)
      | (go_at_call 75; refine (shad_any _ _).mono ?_; rintro e u ⟨rfl, rfl⟩; rw [hH]))
    go_ret
    exact ⟨e80b ⟨hT, hP1⟩ hG0 (fun q => by simp [hH] at q), below1 b2⟩
  | true =>
  cases hR : targOk k T with
  | false =>
    go_enter Try.func65, Try.ntmps65
    go_wp2_with (first
      | (go_at_call 71; refine (type_any _ _).mono ?_; rintro e u ⟨rfl, rfl⟩; rw [hT])
      | (go_at_call 72; refine (within_any _ _ _ _).mono ?_; rintro e u ⟨rfl, rfl⟩; first | rw [hP] | rw [hM])
      | (go_at_call 73; refine (name_any _ _ hN).mono ?_; rintro e u ⟨rfl, rfl⟩; rw [hG])
      | (go_at_call 74; refine (size_any _ _ _ _ _ _ _ _ _).mono ?_; rintro e u1 ⟨rfl, b2⟩; rw [hS]; obtain ⟨c0, c1, c2, c3, c4, c5, c6, c7⟩ := box8 b2)
      | (go_at_call 75; refine (shad_any _ _).mono ?_; rintro e u ⟨rfl, rfl⟩; rw [hH])
      | (go_at_call 76; refine (targ_any _ _ _ _ _ _ _ _ _ hTs).mono ?_; rintro e u2 ⟨rfl, b3⟩; rw [hR]))
    go_ret
    exact ⟨e82 ⟨hT, hP1⟩ hG0 ⟨hS, hM1, hH⟩ hR, below1 (b2.trans (b3.mono b2.size))⟩
  | true =>
    go_enter Try.func65, Try.ntmps65
    go_wp2_with (first
      | (go_at_call 71; refine (type_any _ _).mono ?_; rintro e u ⟨rfl, rfl⟩; rw [hT])
      | (go_at_call 72; refine (within_any _ _ _ _).mono ?_; rintro e u ⟨rfl, rfl⟩; first | rw [hP] | rw [hM])
      | (go_at_call 73; refine (name_any _ _ hN).mono ?_; rintro e u ⟨rfl, rfl⟩; rw [hG])
      | (go_at_call 74; refine (size_any _ _ _ _ _ _ _ _ _).mono ?_; rintro e u1 ⟨rfl, b2⟩; rw [hS]; obtain ⟨c0, c1, c2, c3, c4, c5, c6, c7⟩ := box8 b2)
      | (go_at_call 75; refine (shad_any _ _).mono ?_; rintro e u ⟨rfl, rfl⟩; rw [hH])
      | (go_at_call 76; refine (targ_any _ _ _ _ _ _ _ _ _ hTs).mono ?_; rintro e u2 ⟨rfl, b3⟩; rw [hR]))
    go_ret
    exact ⟨e0 ⟨hT, hP1⟩ hG0 ⟨hS, hM1, hH⟩ hR, below1 (b2.trans (b3.mono b2.size))⟩

set_option maxHeartbeats 4000000 in
theorem rcheck_any (k p : Int) (N : ByteArray) (z m st h : Int) (T : ByteArray) (w : World) (hN : N.size ≤ 9223372036854775807) (hTs : T.size ≤ 9223372036854775807) : Calls Try.prog 43 #[.agg #[.int .i64 k, .int .i64 p, .string N, .int .i64 z, .int .i64 m, .int .u64 st, .int .i64 h, .string T]] w fun e w' => e = .returned (.int .i64 (nodeE k p N z m st h T)) ∧ Below w.heap.size w w' := by
  have b1 := bel0 w (.cells #[.int .i64 k, .int .i64 p, .string N, .int .i64 z, .int .i64 m, .int .u64 st, .int .i64 h, .string T] 50)
  by_cases g0 : k < 1
  ·
    go_enter Try.func43, Try.ntmps43
    go_wp2
    go_ret
    exact ⟨e80 (fun q => by have := of_decide_eq_true q.1; omega), below1 b1⟩
  replace g0 : 1 ≤ k := by omega
  by_cases g1 : 3 < k
  ·
    go_enter Try.func43, Try.ntmps43
    go_wp2
    go_ret
    exact ⟨e80 (fun q => by have := of_decide_eq_true q.1; omega), below1 b1⟩
  replace g1 : k ≤ 3 := by omega
  by_cases g2 : p < 0
  ·
    go_enter Try.func43, Try.ntmps43
    go_wp2
    go_ret
    exact ⟨e80 (fun q => by have := of_decide_eq_true q.2; omega), below1 b1⟩
  replace g2 : 0 ≤ p := by omega
  by_cases g3 : 1048575 < p
  ·
    go_enter Try.func43, Try.ntmps43
    go_wp2
    go_ret
    exact ⟨e80 (fun q => by have := of_decide_eq_true q.2; omega), below1 b1⟩
  replace g3 : p ≤ 1048575 := by omega
  have hTP : typeOk k = true ∧ parOk p = true := ⟨decide_eq_true (by omega), decide_eq_true (by omega)⟩
  cases hG0 : Good N with
  | false =>
    have hG := nameE_f hG0
    go_enter Try.func43, Try.ntmps43
    go_wp2_with (first
      | (go_at_call 60; refine (rname_any _ _ hN).mono ?_; rintro e u ⟨rfl, rfl⟩; rw [hG]))
    go_ret
    exact ⟨e81 hTP hG0, below1 b1⟩
  | true =>
  have hG := nameE_t hG0
  by_cases f0 : z < 0
  ·
    go_enter Try.func43, Try.ntmps43
    go_wp2_with (first
      | (go_at_call 60; refine (rname_any _ _ hN).mono ?_; rintro e u ⟨rfl, rfl⟩; rw [hG]))
    go_ret
    exact ⟨e80b hTP hG0 (fun q => by have := of_decide_eq_true q.1; omega), below1 b1⟩
  replace f0 : 0 ≤ z := by omega
  by_cases f1 : 2147483648 < z
  ·
    go_enter Try.func43, Try.ntmps43
    go_wp2_with (first
      | (go_at_call 60; refine (rname_any _ _ hN).mono ?_; rintro e u ⟨rfl, rfl⟩; rw [hG]))
    go_ret
    exact ⟨e80b hTP hG0 (fun q => by have := of_decide_eq_true q.1; omega), below1 b1⟩
  replace f1 : z ≤ 2147483648 := by omega
  by_cases k1 : k = 1
  · subst k1
    by_cases r0 : m < 0
    ·
      go_enter Try.func43, Try.ntmps43
      go_wp2_with (first
        | (go_at_call 60; refine (rname_any _ _ hN).mono ?_; rintro e u ⟨rfl, rfl⟩; rw [hG]))
      go_ret
      exact ⟨e80b hTP hG0 (fun q => by have := of_decide_eq_true q.2.1; omega), below1 b1⟩
    replace r0 : 0 ≤ m := by omega
    by_cases r1 : 4095 < m
    ·
      go_enter Try.func43, Try.ntmps43
      go_wp2_with (first
        | (go_at_call 60; refine (rname_any _ _ hN).mono ?_; rintro e u ⟨rfl, rfl⟩; rw [hG]))
      go_ret
      exact ⟨e80b hTP hG0 (fun q => by have := of_decide_eq_true q.2.1; omega), below1 b1⟩
    replace r1 : m ≤ 4095 := by omega
    by_cases r2 : h < 0
    ·
      go_enter Try.func43, Try.ntmps43
      go_wp2_with (first
        | (go_at_call 60; refine (rname_any _ _ hN).mono ?_; rintro e u ⟨rfl, rfl⟩; rw [hG]))
      go_ret
      exact ⟨e80b hTP hG0 (fun q => by have := of_decide_eq_true q.2.2; omega), below1 b1⟩
    replace r2 : 0 ≤ h := by omega
    by_cases r3 : h = 1
    ·
      subst r3
      go_enter Try.func43, Try.ntmps43
      go_wp2_with (first
        | (go_at_call 60; refine (rname_any _ _ hN).mono ?_; rintro e u ⟨rfl, rfl⟩; rw [hG]))
      go_ret
      exact ⟨e80b hTP hG0 (fun q => by have := of_decide_eq_true q.2.2; omega), below1 b1⟩
    replace r3 : h ≠ 1 := by omega
    by_cases r4 : 1048575 < h
    ·
      go_enter Try.func43, Try.ntmps43
      go_wp2_with (first
        | (go_at_call 60; refine (rname_any _ _ hN).mono ?_; rintro e u ⟨rfl, rfl⟩; rw [hG]))
      go_ret
      exact ⟨e80b hTP hG0 (fun q => by have := of_decide_eq_true q.2.2; omega), below1 b1⟩
    replace r4 : h ≤ 1048575 := by omega
    have hSM : sizeOk 1 z = true ∧ modeOk m = true ∧ shadOk h = true := ⟨decide_eq_true (by omega), decide_eq_true (by omega), decide_eq_true (by omega)⟩
    have a1 : decide (z < 0) = false := decide_eq_false (by omega)
    have a2 : decide (2147483648 < z) = false := decide_eq_false (by omega)
    have a3 : decide (m < 0) = false := decide_eq_false (by omega)
    have a4 : decide (4095 < m) = false := decide_eq_false (by omega)
    have a5 : decide (h < 0) = false := decide_eq_false (by omega)
    have a6 : decide (1048575 < h) = false := decide_eq_false (by omega)
    have a7 : (h == 1) = false := by simp [r3]
    cases hR : targOk 1 T with
    | false =>
      go_enter Try.func43, Try.ntmps43
      go_wp2_with (first
        | (go_at_call 60; refine (rname_any _ _ hN).mono ?_; rintro e u ⟨rfl, rfl⟩; rw [hG])
        | (go_at_call 61; refine (rtarg_any _ _ _ hTs).mono ?_; rintro e u ⟨rfl, rfl⟩; rw [hR]))
      go_ret
      exact ⟨e82 hTP hG0 hSM hR, below1 b1⟩
    | true =>
      go_enter Try.func43, Try.ntmps43
      go_wp2_with (first
        | (go_at_call 60; refine (rname_any _ _ hN).mono ?_; rintro e u ⟨rfl, rfl⟩; rw [hG])
        | (go_at_call 61; refine (rtarg_any _ _ _ hTs).mono ?_; rintro e u ⟨rfl, rfl⟩; rw [hR]))
      go_ret
      exact ⟨e0 hTP hG0 hSM hR, below1 b1⟩
  by_cases z0 : z = 0
  · subst z0
    by_cases r0 : m < 0
    ·
      go_enter Try.func43, Try.ntmps43
      go_wp2_with (first
        | (go_at_call 60; refine (rname_any _ _ hN).mono ?_; rintro e u ⟨rfl, rfl⟩; rw [hG]))
      go_ret
      exact ⟨e80b hTP hG0 (fun q => by have := of_decide_eq_true q.2.1; omega), below1 b1⟩
    replace r0 : 0 ≤ m := by omega
    by_cases r1 : 4095 < m
    ·
      go_enter Try.func43, Try.ntmps43
      go_wp2_with (first
        | (go_at_call 60; refine (rname_any _ _ hN).mono ?_; rintro e u ⟨rfl, rfl⟩; rw [hG]))
      go_ret
      exact ⟨e80b hTP hG0 (fun q => by have := of_decide_eq_true q.2.1; omega), below1 b1⟩
    replace r1 : m ≤ 4095 := by omega
    by_cases r2 : h < 0
    ·
      go_enter Try.func43, Try.ntmps43
      go_wp2_with (first
        | (go_at_call 60; refine (rname_any _ _ hN).mono ?_; rintro e u ⟨rfl, rfl⟩; rw [hG]))
      go_ret
      exact ⟨e80b hTP hG0 (fun q => by have := of_decide_eq_true q.2.2; omega), below1 b1⟩
    replace r2 : 0 ≤ h := by omega
    by_cases r3 : h = 1
    ·
      subst r3
      go_enter Try.func43, Try.ntmps43
      go_wp2_with (first
        | (go_at_call 60; refine (rname_any _ _ hN).mono ?_; rintro e u ⟨rfl, rfl⟩; rw [hG]))
      go_ret
      exact ⟨e80b hTP hG0 (fun q => by have := of_decide_eq_true q.2.2; omega), below1 b1⟩
    replace r3 : h ≠ 1 := by omega
    by_cases r4 : 1048575 < h
    ·
      go_enter Try.func43, Try.ntmps43
      go_wp2_with (first
        | (go_at_call 60; refine (rname_any _ _ hN).mono ?_; rintro e u ⟨rfl, rfl⟩; rw [hG]))
      go_ret
      exact ⟨e80b hTP hG0 (fun q => by have := of_decide_eq_true q.2.2; omega), below1 b1⟩
    replace r4 : h ≤ 1048575 := by omega
    have hSM : sizeOk k 0 = true ∧ modeOk m = true ∧ shadOk h = true := ⟨decide_eq_true (by omega), decide_eq_true (by omega), decide_eq_true (by omega)⟩
    have a3 : decide (m < 0) = false := decide_eq_false (by omega)
    have a4 : decide (4095 < m) = false := decide_eq_false (by omega)
    have a5 : decide (h < 0) = false := decide_eq_false (by omega)
    have a6 : decide (1048575 < h) = false := decide_eq_false (by omega)
    have a7 : (h == 1) = false := by simp [r3]
    have a8 : (k != 1) = true := by simp [k1]
    cases hR : targOk k T with
    | false =>
      go_enter Try.func43, Try.ntmps43
      go_wp2_with (first
        | (go_at_call 60; refine (rname_any _ _ hN).mono ?_; rintro e u ⟨rfl, rfl⟩; rw [hG])
        | (go_at_call 61; refine (rtarg_any _ _ _ hTs).mono ?_; rintro e u ⟨rfl, rfl⟩; rw [hR]))
      go_ret
      exact ⟨e82 hTP hG0 hSM hR, below1 b1⟩
    | true =>
      go_enter Try.func43, Try.ntmps43
      go_wp2_with (first
        | (go_at_call 60; refine (rname_any _ _ hN).mono ?_; rintro e u ⟨rfl, rfl⟩; rw [hG])
        | (go_at_call 61; refine (rtarg_any _ _ _ hTs).mono ?_; rintro e u ⟨rfl, rfl⟩; rw [hR]))
      go_ret
      exact ⟨e0 hTP hG0 hSM hR, below1 b1⟩
  go_enter Try.func43, Try.ntmps43
  go_wp2_with (first
    | (go_at_call 60; refine (rname_any _ _ hN).mono ?_; rintro e u ⟨rfl, rfl⟩; rw [hG]))
  go_ret
  exact ⟨e80b hTP hG0 (fun q => by have := of_decide_eq_true q.1; omega), below1 b1⟩

theorem grown_of {w w' : World} (h : Below w.heap.size w w') (row : Option Nat) : w.grownBy w' row := ⟨h.os, h.tape, h.output, h.size, fun k hk _ => h.block k hk⟩
theorem below_of {w w' : World} (h : w.grownBy w' none) : Below w.heap.size w w' := ⟨h.os, h.tape, h.output, h.size, fun k hk => h.block k hk (by simp)⟩
theorem grownBy_trans {a b c : World} {r : Option Nat} (h : a.grownBy b r) (k : b.grownBy c r) : a.grownBy c r :=
  ⟨k.os.trans h.os, k.tape.trans h.tape, k.output.trans h.output, Nat.le_trans h.size k.size, fun i hi hr => (k.block i (Nat.lt_of_lt_of_le hi h.size) hr).trans (h.block i hi hr)⟩
theorem drew_grown (w : World) (r : Option Nat) : w.grownBy w.drew r := ⟨rfl, rfl, rfl, Nat.le_refl _, fun _ _ _ => rfl⟩
theorem held8 {w x : World} {k p : Int} {N : ByteArray} {z m st h : Int} {T : ByteArray} (q : (w.alloc (.cells #[.int .i64 k, .int .i64 p, .string N, .int .i64 z, .int .i64 m, .int .u64 st, .int .i64 h, .string T] 50)).grownBy x none) : (fun x => (w.alloc (.cells #[.int .i64 k, .int .i64 p, .string N, .int .i64 z, .int .i64 m, .int .u64 st, .int .i64 h, .string T] 50)).grownBy x none ∧ x.cell? ⟨w.heap.size, 0, none⟩ = some (.int .i64 k) ∧ x.cell? ⟨w.heap.size, 1, none⟩ = some (.int .i64 p) ∧ x.cell? ⟨w.heap.size, 2, none⟩ = some (.string N) ∧ x.cell? ⟨w.heap.size, 3, none⟩ = some (.int .i64 z) ∧ x.cell? ⟨w.heap.size, 4, none⟩ = some (.int .i64 m) ∧ x.cell? ⟨w.heap.size, 5, none⟩ = some (.int .u64 st) ∧ x.cell? ⟨w.heap.size, 6, none⟩ = some (.int .i64 h) ∧ x.cell? ⟨w.heap.size, 7, none⟩ = some (.string T)) x := ⟨q, box8 (below_of q)⟩

end Go.Proofs.Ytoaahellfflooaa
