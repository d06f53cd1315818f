/-
  SEAT Ytoaahellfflooaa.
-/
import Derived.Test.YtoaahellfflooaaVBase
namespace Go.Proofs.Ytoaahellfflooaa
open Go.RowKit
set_option linter.unusedVariables false

def typeOk (k : Int) : Bool := decide (1 ≤ k ∧ k ≤ 3)
def parOk (p : Int) : Bool := decide (0 ≤ p ∧ p ≤ 1048575)
def sizeOk (k z : Int) : Bool := decide ((k = 1 ∧ 0 ≤ z ∧ z ≤ 2147483648) ∨ (k ≠ 1 ∧ z = 0))
def modeOk (m : Int) : Bool := decide (0 ≤ m ∧ m ≤ 4095)
def shadOk (h : Int) : Bool := decide (h = 0 ∨ (2 ≤ h ∧ h ≤ 1048575))
def targOk (k : Int) (T : ByteArray) : Bool := if k = 3 then decide (1 ≤ T.size) && decide (T.size ≤ 127) && !HasB T 0 else decide (T.toList = [])

theorem within_t (n a b : Int) (w : World) (h0 : a ≤ n) (h1 : n ≤ b) : Calls Try.prog 72 #[.int .i64 n, .int .i64 a, .int .i64 b] w fun e w' => e = .returned (.bool true) ∧ w = w' := by
  go_enter Try.func72, Try.ntmps72
  go_wp2
  go_ret
  exact ⟨rfl, rfl⟩

theorem within_f (n a b : Int) (w : World) (h : n < a ∨ b < n) : Calls Try.prog 72 #[.int .i64 n, .int .i64 a, .int .i64 b] w fun e w' => e = .returned (.bool false) ∧ w = w' := by
  by_cases h0 : a ≤ n
  · have h1 : b < n := by omega
    go_enter Try.func72, Try.ntmps72
    go_wp2
    go_ret
    exact ⟨ret_bool (decide_eq_false (by omega)), rfl⟩
  · have h1 : n < a := by omega
    go_enter Try.func72, Try.ntmps72
    go_wp2
    go_ret
    exact ⟨rfl, rfl⟩

theorem within_any (n a b : Int) (w : World) : Calls Try.prog 72 #[.int .i64 n, .int .i64 a, .int .i64 b] w fun e w' => e = .returned (.bool (decide (a ≤ n ∧ n ≤ b))) ∧ w = w' := by
  by_cases h : a ≤ n ∧ n ≤ b
  · rw [decide_eq_true h]; exact within_t n a b w h.1 h.2
  · rw [decide_eq_false h]; exact within_f n a b w (by omega)

theorem type_any (k : Int) (w : World) : Calls Try.prog 71 #[.int .i64 k] w fun e w' => e = .returned (.bool (typeOk k)) ∧ w = w' := by
  have hk : k = 1 ∨ k = 2 ∨ k = 3 ∨ (k ≠ 1 ∧ k ≠ 2 ∧ k ≠ 3) := by omega
  rcases hk with rfl | rfl | rfl | ⟨h1, h2, h3⟩
  all_goals
    go_enter Try.func71, Try.ntmps71
    go_wp2
    go_ret
    exact ⟨ret_bool (by first | rfl | (unfold typeOk; rw [Bool.eq_iff_iff]; simp only [Bool.or_eq_true, beq_iff_eq, decide_eq_true_iff]; omega)), rfl⟩

theorem shad_any (h : Int) (w : World) : Calls Try.prog 75 #[.int .i64 h] w fun e w' => e = .returned (.bool (shadOk h)) ∧ w = w' := by
  by_cases h0 : h = 0
  · subst h0
    go_enter Try.func75, Try.ntmps75
    go_wp2
    go_ret
    exact ⟨ret_bool (by rfl), rfl⟩
  by_cases h1 : 2 ≤ h ∧ h ≤ 1048575
  · go_enter Try.func75, Try.ntmps75
    go_wp2_with (go_at_call 72; refine (within_t _ _ _ _ h1.1 h1.2).mono ?_; rintro e u ⟨rfl, rfl⟩)
    go_ret
    exact ⟨ret_bool (by first | exact (decide_eq_true (by omega)).symm | simp [shadOk, h1]), rfl⟩
  · go_enter Try.func75, Try.ntmps75
    go_wp2_with (go_at_call 72; refine (within_f _ _ _ _ (by omega)).mono ?_; rintro e u ⟨rfl, rfl⟩)
    go_ret
    exact ⟨ret_bool (by first | exact (decide_eq_false (by omega)).symm | (unfold shadOk; rw [Bool.eq_iff_iff]; simp only [beq_iff_eq, decide_eq_true_iff]; omega)), rfl⟩

theorem size_any (k p : Int) (N : ByteArray) (z m st h : Int) (T : ByteArray) (w : World) : Calls Try.prog 74 #[.agg #[.int .i64 k, .int .i64 p, .string N, .int .i64 z, .int .i64 m, .int .u64 st, .int .i64 h, .string T]] w fun e w' => e = .returned (.bool (sizeOk k z)) ∧ Below w.heap.size w w' := by
  by_cases h1 : k = 1
  · subst h1
    go_enter Try.func74, Try.ntmps74
    go_wp2_with (go_at_call 72; refine (within_any _ _ _ _).mono ?_; rintro e u ⟨rfl, rfl⟩)
    go_ret
    refine ⟨ret_bool ?_, (Below.refl _ _).alloc (Nat.le_refl _) _⟩
    unfold sizeOk
    rw [Bool.eq_iff_iff, Bool.and_eq_true, decide_eq_true_iff, decide_eq_true_iff, decide_eq_true_iff]
    constructor
    · rintro ⟨a, b⟩
      exact Or.inl ⟨rfl, a, b⟩
    · rintro (⟨_, a, b⟩ | ⟨a, _⟩)
      · exact ⟨a, b⟩
      · exact absurd rfl a
  · go_enter Try.func74, Try.ntmps74
    go_wp2
    go_ret
    exact ⟨ret_bool (by unfold sizeOk; first | (rw [Bool.eq_iff_iff, beq_iff_eq, decide_eq_true_iff]; omega) | (rw [decide_eq_decide]; omega)), (Below.refl _ _).alloc (Nat.le_refl _) _⟩

theorem box8 {w u : World} {k p : Int} {N : ByteArray} {z m st h : Int} {T : ByteArray} (q : Below (w.alloc (.cells #[.int .i64 k, .int .i64 p, .string N, .int .i64 z, .int .i64 m, .int .u64 st, .int .i64 h, .string T] 50)).heap.size (w.alloc (.cells #[.int .i64 k, .int .i64 p, .string N, .int .i64 z, .int .i64 m, .int .u64 st, .int .i64 h, .string T] 50)) u) :
    u.cell? ⟨w.heap.size, 0, none⟩ = some (.int .i64 k) ∧ u.cell? ⟨w.heap.size, 1, none⟩ = some (.int .i64 p) ∧ u.cell? ⟨w.heap.size, 2, none⟩ = some (.string N) ∧ u.cell? ⟨w.heap.size, 3, none⟩ = some (.int .i64 z) ∧ u.cell? ⟨w.heap.size, 4, none⟩ = some (.int .i64 m) ∧ u.cell? ⟨w.heap.size, 5, none⟩ = some (.int .u64 st) ∧ u.cell? ⟨w.heap.size, 6, none⟩ = some (.int .i64 h) ∧ u.cell? ⟨w.heap.size, 7, none⟩ = some (.string T) := by
  refine ⟨?_, ?_, ?_, ?_, ?_, ?_, ?_, ?_⟩ <;> (rw [q.cell (by simp)]; simp)

theorem targ_any (k p : Int) (N : ByteArray) (z m st h : Int) (T : ByteArray) (w : World) (hT : T.size ≤ 9223372036854775807) : Calls Try.prog 76 #[.agg #[.int .i64 k, .int .i64 p, .string N, .int .i64 z, .int .i64 m, .int .u64 st, .int .i64 h, .string T]] w fun e w' => e = .returned (.bool (targOk k T)) ∧ Below w.heap.size w w' := by
  by_cases h1 : k = 3
  · subst h1
    by_cases h2 : 1 ≤ (T.size : Int) ∧ (T.size : Int) ≤ 127
    · have e1 : 1 ≤ T.size := by omega
      have e2 : T.size ≤ 127 := by omega
      cases hb : HasB T 0 with
      | true =>
        have hv : targOk 3 T = false := by simp [targOk, hb]
        rw [hv]
        clear hv e1 e2
        go_enter Try.func76, Try.ntmps76
        go_wp2_with (first
          | (go_at_call 72; refine (within_t _ _ _ _ h2.1 h2.2).mono ?_; rintro e u ⟨rfl, rfl⟩)
          | (go_at_call 80; refine (has_any0 _ _ _ _ _ hb rfl (by simp)).mono ?_; rintro e w' ⟨rfl, rfl⟩; simp only [if_true]))
        go_ret
        exact ⟨rfl, (Below.refl _ _).alloc (Nat.le_refl _) _⟩
      | false =>
        have hv : targOk 3 T = true := by simp [targOk, hb, e1, e2]
        rw [hv]
        clear hv e1 e2
        go_enter Try.func76, Try.ntmps76
        go_wp2_with (first
          | (go_at_call 72; refine (within_t _ _ _ _ h2.1 h2.2).mono ?_; rintro e u ⟨rfl, rfl⟩)
          | (go_at_call 80; refine (has_any0 _ _ _ _ _ hb rfl (by simp)).mono ?_; rintro e w' ⟨rfl, rfl⟩; simp only [if_true]))
        go_ret
        exact ⟨rfl, (Below.refl _ _).alloc (Nat.le_refl _) _⟩
    · have hv : targOk 3 T = false := by
        by_cases q : 1 ≤ T.size
        · have : ¬ T.size ≤ 127 := by omega
          simp [targOk, this]
        · simp [targOk, q]
      rw [hv]
      clear hv
      go_enter Try.func76, Try.ntmps76
      go_wp2_with (first
          | (go_at_call 72; refine (within_f _ _ _ _ (by omega)).mono ?_; rintro e u ⟨rfl, rfl⟩))
      go_ret
      exact ⟨rfl, (Below.refl _ _).alloc (Nat.le_refl _) _⟩
  · have hv : targOk k T = decide (T.toList = []) := by simp [targOk, h1]
    rw [hv]
    clear hv
    go_enter Try.func76, Try.ntmps76
    go_wp2
    go_ret
    exact ⟨ret_bool (by first | rfl | (rw [Bool.eq_iff_iff]; simp)), (Below.refl _ _).alloc (Nat.le_refl _) _⟩

set_option maxHeartbeats 1000000 in
theorem rtarg_any (k : Int) (T : ByteArray) (w : World) (hT : T.size ≤ 9223372036854775807) : Calls Try.prog 61 #[.int .i64 k, .string T] w fun e w' => e = .returned (.bool (targOk k T)) ∧ w' = w := by
  by_cases h1 : k = 3
  · subst h1
    by_cases h2 : (T.size : Int) < 1
    · have hv : targOk 3 T = false := by simp [targOk, show ¬ 1 ≤ T.size by omega]
      rw [hv]
      clear hv
      go_enter Try.func61, Try.ntmps61
      go_wp2
      go_ret
      exact ⟨rfl, rfl⟩
    replace h2 : 1 ≤ (T.size : Int) := by omega
    by_cases h3 : 127 < (T.size : Int)
    · have hv : targOk 3 T = false := by simp [targOk, show ¬ T.size ≤ 127 by omega]
      rw [hv]
      clear hv
      go_enter Try.func61, Try.ntmps61
      go_wp2
      go_ret
      exact ⟨rfl, rfl⟩
    replace h3 : (T.size : Int) ≤ 127 := by omega
    have f0 : decide ((T.size : Int) < 1) = false := decide_eq_false (by omega)
    have f1 : decide (127 < (T.size : Int)) = false := decide_eq_false (by omega)
    go_enter Try.func61, Try.ntmps61
    go_wp2
    go_loopw [5] (fun i wr => ∃ k : Nat, k ≤ T.size ∧ i = .int .i64 k ∧ wr = w ∧ (∀ j, j < k → T[j]! ≠ 0)) (fun i _ => T.size - (intOf i).toNat)
    case atStart => exact ⟨0, Nat.zero_le _, rfl, rfl, fun j hj => absurd hj (Nat.not_lt_zero _)⟩
    case round =>
      obtain ⟨k, hk, rfl, rfl, hall⟩ := hrel
      have H : Hid (∀ j, j < k → T[j]! ≠ 0) := hall
      clear hall
      by_cases hlt : k < T.size
      · have d1 : decide ((k : Int) < (T.size : Int)) = true := decide_eq_true (by omega)
        obtain ⟨x, hx⟩ : ∃ x : Nat, T[k].toNat = x := ⟨_, rfl⟩
        have hp : T[k]! = T[k] := getElem!_pos T k hlt
        have hm := byte_nat T k hlt
        by_cases x0 : x = 0
        · have hb : T[k]! = 0 := UInt8.toNat_inj.1 (by rw [hp, hx, x0]; rfl)
          rw [hb] at hm
          have HV : Hid (targOk 3 T = false) := by
            unfold Hid
            simp [targOk, HasB, hm]
          subst x0
          clear hm hb hp
          go_wp2
          go_ret
          exact ⟨ret_bool HV.out.symm, rfl⟩
        have e0 : ((x : Int) == 0) = false := by simp [x0]
        have HP : Hid (T[k]! = T[k]) := hp
        clear hm hp
        go_wp2
        go_roundw
        case rel =>
          refine ⟨k + 1, by omega, by go_num, by simp, fun j hj => ?_⟩
          by_cases hjk : j < k
          · exact H.out j hjk
          · obtain rfl : j = k := by omega
            exact fun h => x0 (by rw [← hx, ← HP.out, h]; rfl)
        case measure => simp [intOf]; omega
      · obtain rfl : k = T.size := by omega
        have hv : targOk 3 T = true := by
          have g : ∀ c : UInt8, c ∈ T.data.toList → c ≠ 0 := by
            intro c hc
            obtain ⟨j, hj, rfl⟩ := List.mem_iff_getElem.1 hc
            have hj' : j < T.size := by rw [Lib.size_eq]; exact hj
            have := H.out j hj'
            rw [getElem!_pos T j hj'] at this
            simpa [ByteArray.getElem_eq_getElem_data] using this
          have g0 : HasB T 0 = false := by unfold HasB; exact decide_eq_false (fun h => (g 0 h) rfl)
          have q1 : 1 ≤ T.size := by omega
          have q2 : T.size ≤ 127 := by omega
          simp [targOk, g0, q1, q2]
        have HV : Hid (targOk 3 T = true) := hv
        clear hv
        go_wp2
        go_ret
        exact ⟨ret_bool HV.out.symm, rfl⟩
  · have hv : targOk k T = decide (T.toList = []) := by simp [targOk, h1]
    rw [hv]
    clear hv
    go_enter Try.func61, Try.ntmps61
    go_wp2
    go_ret
    exact ⟨ret_bool (by first | rfl | (rw [Bool.eq_iff_iff]; simp)), rfl⟩
end Go.Proofs.Ytoaahellfflooaa
