/-
  SEAT Ytgijbpkfheillaa: counting states.
-/
import Derived.Test.YtgijbpkfheillaaBlH
namespace Go.Proofs.Ytgijbpkfheillaa
open Go.RowKit
set_option linter.unusedVariables false

theorem index_any (gs m c : Nat) (xs : List Int) (v : Int) (w : World) (hl : xs.length = m) (hm : m ≤ 1000) (h : ∀ j, j < m → w.cell? ⟨gs, j, none⟩ = some (.int .i64 (xs.getD j 0))) :
    Calls Try.prog 75 #[.slice (some ⟨gs, 0, none⟩) m c, .int .i64 v] w fun e w' => (∃ r : Int, e = .returned (.int .i64 r) ∧ (0 ≤ r ↔ v ∈ xs)) ∧ w = w' := by
  have HC : Hid _ := h
  clear h
  go_enter Try.func75, Try.ntmps75
  go_wp2
  go_loop [5, 8] (fun s5 s8 => ∃ k : Nat, k ≤ m ∧ s8 = .int .i64 k ∧ Hid (∀ j, j < k → xs.getD j 0 ≠ v))
    (fun _ i => m - (intOf i).toNat)
  case atStart => exact ⟨0, Nat.zero_le _, rfl, fun j hj => absurd hj (Nat.not_lt_zero _)⟩
  case round =>
    obtain ⟨k, hk, rfl, HJ⟩ := hrel
    by_cases hlt : k < m
    · obtain ⟨x, hx⟩ : ∃ x, xs.getD k 0 = x := ⟨_, rfl⟩
      have hc := HC.out k hlt
      rw [hx] at hc
      have HX : Hid (xs.getD k 0 = x) := hx
      have d1 : (k : Int) < m := by omega
      clear hx
      by_cases e : v = x
      · have e1 : (v == x) = true := by simpa using e
        have HE : Hid (v = x) := e
        clear e
        go_wp2
        go_ret
        refine ⟨⟨k, rfl, ?_⟩, rfl⟩
        have h9 : x ∈ xs := by
          rw [← HX.out, List.getD_eq_getElem?_getD, List.getElem?_eq_getElem (by omega)]
          exact List.getElem_mem _
        rw [HE.out]
        exact ⟨fun _ => h9, fun _ => by omega⟩
      · have e1 : (v == x) = false := by simpa using e
        go_wp2
        go_round
        case rel => exact ⟨k + 1, by omega, by go_num, fun j hj => by
          by_cases q : j = k
          · subst q; rw [HX.out]; exact fun q => e q.symm
          · exact HJ.out j (by omega)⟩
        case measure => simp [intOf]; omega
    · have hkm : k = m := by omega
      subst hkm
      go_wp2
      go_ret
      refine ⟨⟨-1, rfl, ?_⟩, rfl⟩
      constructor
      · intro h9; omega
      · intro h9
        obtain ⟨j, hj, rfl⟩ := List.mem_iff_getElem.1 h9
        exact absurd (by rw [List.getD_eq_getElem?_getD, List.getElem?_eq_getElem hj]; rfl) (HJ.out j (by omega))

theorem contains_any (gs m c : Nat) (xs : List Int) (v : Int) (w : World) (hl : xs.length = m) (hm : m ≤ 1000) (h : ∀ j, j < m → w.cell? ⟨gs, j, none⟩ = some (.int .i64 (xs.getD j 0))) :
    Calls Try.prog 67 #[.slice (some ⟨gs, 0, none⟩) m c, .int .i64 v] w fun e w' => e = .returned (.bool (decide (v ∈ xs))) ∧ w = w' := by
  go_enter Try.func67, Try.ntmps67
  go_wp2_with (first | (go_at_call 75; refine (index_any gs m c xs v _ hl hm h).mono ?_; rintro e u1 ⟨⟨r, rfl, hr⟩, rfl⟩))
  go_ret
  exact ⟨ret_bool (by first | exact decide_eq_decide.2 hr | (rw [decide_eq_decide]; first | exact hr | exact hr.symm | skip) | simp [hr]), rfl⟩

/-- How many of the first k entries are in one of some states. -/
def cnt (xs : List Int) (es : List Ent) : Nat → Nat
  | 0 => 0
  | k + 1 => cnt xs es k + (if (es.getD k Ent.zero).s ∈ xs then 1 else 0)
theorem cnt_le (xs : List Int) (es : List Ent) : ∀ k, cnt xs es k ≤ k
  | 0 => Nat.le_refl _
  | k + 1 => by
    have := cnt_le xs es k
    rw [cnt]
    split <;> omega

set_option maxHeartbeats 1000000 in
theorem count_any (gb gk : Nat) (P : Int) (es : List Ent) (cur last vic : Int) (gs m c : Nat) (xs : List Int) (w : World) (h : BookAt w gb gk P es cur last vic) (hn : es.length ≤ 5000) (hl : xs.length = m) (hm : m ≤ 1000) (hs : gs < w.heap.size) (hc : ∀ j, j < m → w.cell? ⟨gs, j, none⟩ = some (.int .i64 (xs.getD j 0))) :
    Calls Try.prog 35 #[.pointer (some ⟨gb, 0, none⟩), .slice (some ⟨gs, 0, none⟩) m c] w fun e w' => e = .returned (.int .i64 (cnt xs es es.length : Nat)) ∧ Below w.heap.size w w' := by
  obtain ⟨c0, c1, c2, c3, c4⟩ := h.cells
  have HB : Hid (BookAt w gb gk P es cur last vic) := h
  have HC : Hid (∀ u, Below w.heap.size w u → ∀ j, j < m → u.cell? ⟨gs, j, none⟩ = some (.int .i64 (xs.getD j 0))) := fun u hu j hj => (hu.cell hs).trans (hc j hj)
  clear h hc
  go_enter Try.func35, Try.ntmps35
  go_wp2
  go_loopw [5, 7, 13] (fun s5 s7 s13 wr => ∃ k : Nat, k ≤ es.length ∧ s13 = .int .i64 k ∧ s5 = .int .i64 (cnt xs es k : Nat) ∧ Below w.heap.size w wr)
    (fun _ _ i _ => es.length - (intOf i).toNat)
  case atStart => exact ⟨0, Nat.zero_le _, rfl, rfl, Below.refl _ _⟩
  case round =>
    obtain ⟨k, hk, rfl, rfl, hb⟩ := hrel
    have hcl := cnt_le xs es k
    by_cases hlt : k < es.length
    · obtain ⟨e0, e1, e2, e3, e4⟩ := (HB.out.below hb).entry k hlt
      obtain ⟨B, hBB⟩ : ∃ B, es.getD k Ent.zero = B := ⟨_, rfl⟩
      rw [hBB] at e0 e1 e2 e3 e4
      have HE : Hid (es.getD k Ent.zero = B) := hBB
      obtain ⟨s, h, r, l, lf⟩ := B
      simp only at e0 e1 e2 e3 e4
      have d1 : (k : Int) < es.length := by omega
      have hb1 := hb.alloc hb.size (.cells #[.int .i64 s, .int .u64 h, .bool r, .int .i64 l, .bool lf] 71)
      have HB1 : Hid _ := hb1
      clear hBB hb1
      by_cases hm9 : s ∈ xs
      · have d2 : decide (s ∈ xs) = true := decide_eq_true hm9
        have HM : Hid _ := hm9
        clear hm9
        go_wp2_with (first | (go_at_call 67; refine (contains_any gs m c xs s _ hl hm (HC.out _ HB1.out)).mono ?_; rintro e u1 ⟨rfl, rfl⟩; rw [d2]))
        go_roundw
        case rel => exact ⟨k + 1, by omega, by go_num, by rw [cnt, HE.out, if_pos HM.out]; go_num, HB1.out⟩
        case measure => simp [intOf]; omega
      · have d2 : decide (s ∈ xs) = false := decide_eq_false hm9
        have HM : Hid (¬ _) := hm9
        clear hm9
        go_wp2_with (first | (go_at_call 67; refine (contains_any gs m c xs s _ hl hm (HC.out _ HB1.out)).mono ?_; rintro e u1 ⟨rfl, rfl⟩; rw [d2]))
        go_roundw
        case rel => exact ⟨k + 1, by omega, by go_num, by rw [cnt, HE.out, if_neg HM.out]; rfl, HB1.out⟩
        case measure => simp [intOf]; omega
    · have hkn : k = es.length := by omega
      subst hkn
      go_wp2
      go_ret
      exact ⟨rfl, hb⟩
end Go.Proofs.Ytgijbpkfheillaa
