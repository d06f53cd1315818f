/-
  SEAT Ytjginocbbnmgaaa: the reference's tree: place, has.
-/
import Derived.Test.YtjginocbbnmgaaaToE
namespace Go.Proofs.Ytjginocbbnmgaaa
open Go.RowKit
set_option linter.unusedVariables false

/-- The reference's tree: a box with a slice of pairs. -/
def RefOn (W : World) (gr : Nat) (v : Value) (L : List (Int × Int)) : Prop := W.heap[gr]? = some (.cells #[v] 61 (0, 0)) ∧ Rd W v L ∧ L.length ≤ 1048576
/-- Where a key is, or would be. -/
def PlaceIs (L : List (Int × Int)) (k : Int) (i : Nat) : Prop := i ≤ L.length ∧ (∀ j, j < i → (L.getD j (0, 0)).1 < k) ∧ (i < L.length → k ≤ (L.getD i (0, 0)).1)
theorem ref_form {W : World} {gr : Nat} {v : Value} {L : List (Int × Int)} (h : RefOn W gr v L) : ∃ a cap, v = .slice a L.length cap ∧ W.cell? ⟨gr, 0, none⟩ = some v ∧ ∀ i, i < L.length → ∃ g, a = some ⟨g, 0, none⟩ ∧ W.cell? ⟨g, i * 2, none⟩ = some (.int .i64 (L.getD i (0, 0)).1) ∧ W.cell? ⟨g, i * 2 + 1, none⟩ = some (.int .i64 (L.getD i (0, 0)).2) := by
  obtain ⟨h1, h2, h3⟩ := h
  have hc : W.cell? ⟨gr, 0, none⟩ = some v := by rw [cell_of_row _ _ 0 _ 61 (0, 0) h1]; rfl
  rcases Rd.reads h2 with ⟨rfl, rfl⟩ | ⟨g, cap, rfl, hl, hcl⟩
  · exact ⟨none, 0, rfl, hc, fun i hi => by simp at hi⟩
  · refine ⟨some ⟨g, 0, none⟩, cap, rfl, hc, fun i hi => ⟨g, rfl, ?_⟩⟩
    have h9 := hcl i L[i] (List.getElem?_eq_getElem hi)
    have e : L.getD i (0, 0) = L[i] := by rw [List.getD_eq_getElem?_getD, List.getElem?_eq_getElem hi]; rfl
    rw [e]
    exact h9
set_option maxHeartbeats 4000000 in
set_option maxRecDepth 100000 in
theorem place_any (gr : Nat) (k : Int) (v : Value) (L : List (Int × Int)) (W : World) (h : RefOn W gr v L) :
    Calls Try.prog 59 #[.pointer (some ⟨gr, 0, none⟩), .int .i64 k] W fun e w' => ∃ i, e = .returned (.int .i64 ((i : Nat) : Int)) ∧ PlaceIs L k i ∧ W = w' := by
  have hl6 := h.2.2
  obtain ⟨a, cap, rfl, hc, hcl⟩ := ref_form h
  obtain ⟨N, hN⟩ : ∃ N, L.length = N := ⟨_, rfl⟩
  rw [hN] at hcl hc hl6
  have HN : Hid _ := And.intro hN hl6
  have HCL : Hid _ := hcl
  clear h hcl hN hl6
  go_enter Try.func59, Try.ntmps59
  go_wp2_with fail
  go_loopw [5] (fun s5 wr => ∃ i : Nat, i ≤ N ∧ s5 = .int .i64 (i : Int) ∧ Hid (∀ j, j < i → (L.getD j (0, 0)).1 < k) ∧ wr = W) (fun i _ => N - (intOf i).toNat)
  case atStart => exact ⟨0, by omega, rfl, fun j hj => by omega, rfl⟩
  case round =>
    obtain ⟨i, hi, rfl, HJ, rfl⟩ := hrel
    by_cases hc2 : i < N
    · have dc : (i : Int) < (N : Int) := by omega
      have wi : IntKind.i64.wrap ((i : Int) + 1) = (i : Int) + 1 := by have := HN.out.2; rw [IntKind.wrap_i64]; omega
      obtain ⟨g, rfl, x0, _⟩ := HCL.out i hc2
      obtain ⟨x, hx⟩ : ∃ x, (L.getD i (0, 0)).1 = x := ⟨_, rfl⟩
      rw [hx] at x0
      have HX : Hid _ := hx
      clear hx
      by_cases hlt : x < k
      · have HJ2 : Hid (∀ j, j < i + 1 → (L.getD j (0, 0)).1 < k) := fun j hj => by
          by_cases e : j = i
          · subst e; rw [HX.out]; exact hlt
          · exact HJ.out j (by omega)
        go_wp2_with fail
        go_roundw
        case rel => exact ⟨i + 1, by omega, by first | rfl | simp, HJ2, by first | rfl | trivial⟩
        case measure => (simp [intOf]; omega)
      · go_wp2_with fail
        go_ret
        exact ⟨i, rfl, ⟨by rw [HN.out.1]; exact hi, HJ.out, fun _ => by rw [HX.out]; omega⟩, rfl⟩
    · have dc : ¬ ((i : Int) < (N : Int)) := by omega
      go_wp2_with fail
      go_ret
      exact ⟨i, rfl, ⟨by rw [HN.out.1]; exact hi, HJ.out, fun q => by rw [HN.out.1] at q; omega⟩, rfl⟩
/-- Is there something at a key? -/
def hasK (L : List (Int × Int)) (k : Int) (i : Nat) : Bool := decide (i < L.length ∧ (L.getD i (0, 0)).1 = k)
set_option maxHeartbeats 4000000 in
set_option maxRecDepth 100000 in
theorem has_any (gr : Nat) (k : Int) (v : Value) (L : List (Int × Int)) (W : World) (h : RefOn W gr v L) :
    Calls Try.prog 60 #[.pointer (some ⟨gr, 0, none⟩), .int .i64 k] W fun e w' => ∃ i, e = .returned (.bool (hasK L k i)) ∧ PlaceIs L k i ∧ W = w' := by
  have HPL : Hid _ := place_any gr k v L W h
  obtain ⟨a, cap, rfl, hc, hcl⟩ := ref_form h
  obtain ⟨N, hN⟩ : ∃ N, L.length = N := ⟨_, rfl⟩
  rw [hN] at hcl hc
  have HN : Hid _ := hN
  have HCL : Hid _ := hcl
  clear h hcl hN
  go_enter Try.func60, Try.ntmps60
  go_upto_region 2 with (first | (go_at_call 59; refine Calls.mono HPL.out ?_; rintro e u ⟨i, rfl, hp, rfl⟩; have HP : Hid _ := hp; clear hp))
  by_cases hc2 : i < N
  · have dc : (i : Int) < (N : Int) := by omega
    obtain ⟨g, rfl, x0, _⟩ := HCL.out i hc2
    obtain ⟨x, hx⟩ : ∃ x, (L.getD i (0, 0)).1 = x := ⟨_, rfl⟩
    rw [hx] at x0
    have HX : Hid _ := hx
    clear hx
    by_cases he : x = k
    · have HR : Hid (hasK L k i = true) := decide_eq_true ⟨by rw [HN.out]; exact hc2, by rw [HX.out]; exact he⟩
      subst he
      go_wp2_with fail
      go_ret
      exact ⟨i, by rw [HR.out]; rfl, HP.out, rfl⟩
    · have hne : (x == k) = false := by simpa using he
      have HR : Hid (hasK L k i = false) := decide_eq_false (fun q => he (by rw [← HX.out]; exact q.2))
      go_wp2_with fail
      go_ret
      exact ⟨i, by rw [HR.out]; rfl, HP.out, rfl⟩
  · have dc : ¬ ((i : Int) < (N : Int)) := by omega
    have HR : Hid (hasK L k i = false) := decide_eq_false (fun q => hc2 (by rw [← HN.out]; exact q.1))
    go_wp2_with fail
    go_ret
    exact ⟨i, by rw [HR.out]; rfl, HP.out, rfl⟩
theorem PlaceIs.one {L : List (Int × Int)} {k : Int} {i j : Nat} (h1 : PlaceIs L k i) (h2 : PlaceIs L k j) : i = j := by
  rcases Nat.lt_trichotomy i j with q | q | q
  · have a := h2.2.1 i q
    have b := h1.2.2 (by have := h2.1; omega)
    omega
  · exact q
  · have a := h1.2.1 j q
    have b := h2.2.2 (by have := h1.1; omega)
    omega
end Go.Proofs.Ytjginocbbnmgaaa
