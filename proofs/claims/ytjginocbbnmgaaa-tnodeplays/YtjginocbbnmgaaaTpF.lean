/-
  SEAT Ytjginocbbnmgaaa: the reference's tree: Put.
-/
import Derived.Test.YtjginocbbnmgaaaTpE
namespace Go.Proofs.Ytjginocbbnmgaaa
open Go.RowKit
set_option linter.unusedVariables false

set_option maxHeartbeats 4000000 in
set_option maxRecDepth 100000 in
theorem rput_bad (gr : Nat) (k x : Int) (W : World) (hk : k < 0 ∨ 1048575 < k) :
    Calls Try.prog 45 #[.pointer (some ⟨gr, 0, none⟩), .int .i64 k, .int .i64 x] W fun e w' => e = .returned (.int .i64 90) ∧ W = w' := by
  by_cases h0 : k < 0
  · clear hk
    go_enter Try.func45, Try.ntmps45
    go_wp2_with fail
    go_ret
    exact ⟨rfl, rfl⟩
  · have h1 : 1048575 < k := by omega
    clear hk
    go_enter Try.func45, Try.ntmps45
    go_wp2_with fail
    go_ret
    exact ⟨rfl, rfl⟩

theorem flatP_set (x : Int) : ∀ (L : List (Int × Int)) (i : Nat) (hi : i < L.length), flatP (L.set i (L[i].1, x)) = (flatP L).set (i * 2 + 1) (.int .i64 x)
  | [], i, hi => by simp at hi
  | p :: L, 0, hi => by simp [flatP]
  | p :: L, i + 1, hi => by
    have e : ∀ (q : Int × Int) (M : List (Int × Int)), flatP (q :: M) = .int .i64 q.1 :: .int .i64 q.2 :: flatP M := fun _ _ => rfl
    have ih := flatP_set x L i (by simpa using hi)
    rw [List.set_cons_succ, e, e, show (i + 1) * 2 + 1 = (i * 2 + 1) + 1 + 1 by omega, List.set_cons_succ, List.set_cons_succ, ← ih]
    rfl
theorem Rd.put {W : World} {g cap i : Nat} {x : Int} {L : List (Int × Int)} (h : Rd W (.slice (some ⟨g, 0, none⟩) L.length cap) L) (hi : i < L.length) : Rd (W.setCell ⟨g, i * 2 + 1, none⟩ (.int .i64 x)) (.slice (some ⟨g, 0, none⟩) L.length cap) (L.set i (L[i].1, x)) := by
  obtain ⟨h1, ⟨h2, _⟩ | ⟨g', cap', cur, h2, h3, h4, h5, h6, h7, h8⟩⟩ := h
  · cases h2
  · injection h2 with e1 e2 e3
    injection e1 with e1
    injection e1 with e1
    subst e1 e3
    refine ⟨by rw [flatP_len], Or.inr ⟨g, cap, cur.setIfInBounds (i * 2 + 1) (.int .i64 x), by simp, h3, heap_setCell_same W g _ _ 35 _ h4, by simpa using h5, h6, by simpa using h7, ?_⟩⟩
    rw [Array.toList_setIfInBounds, flatP_set x L i hi, ← h8, List.length_set, List.take_set]

set_option maxHeartbeats 4000000 in
set_option maxRecDepth 100000 in
theorem rput_set (gr i : Nat) (k x : Int) (v : Value) (L : List (Int × Int)) (W : World) (h : RefOn W gr v L) (h0 : 0 ≤ k) (h1 : k ≤ 1048575) (hi : i < L.length) (hyes : ∀ j, PlaceIs L k j → hasK L k j = true ∧ j = i) :
    Calls Try.prog 45 #[.pointer (some ⟨gr, 0, none⟩), .int .i64 k, .int .i64 x] W fun e w' => e = .returned (.int .i64 0) ∧ RefOn w' gr v (L.set i (L[i].1, x)) ∧ W.grownBy w' v.ownBlock := by
  have HH : Hid _ := has_any gr k v L W h
  have HPL : Hid _ := place_any gr k v L W h
  have HY : Hid _ := hyes
  obtain ⟨hb, hrd, hl6⟩ := h
  have HB : Hid (W.heap[gr]? = some (.cells #[v] 61 (0, 0))) := hb
  have c0 : W.cell? ⟨gr, 0, none⟩ = some v := by rw [cell_of_row _ _ 0 _ 61 (0, 0) hb]; rfl
  have q0 : ¬ k < 0 := by omega
  have q1 : ¬ 1048575 < k := by omega
  rcases Rd.reads hrd with ⟨rfl, rfl⟩ | ⟨g, cap, rfl, hlm, hcl⟩
  · simp at hi
  have hgb : ∃ cur, W.heap[g]? = some (.cells cur 35 (0, 0)) := by
    obtain ⟨_, ⟨h2, _⟩ | ⟨g', cap', cur, h2, h3, h4, _⟩⟩ := hrd
    · cases h2
    · injection h2 with e1 e2 e3
      injection e1 with e1
      injection e1 with e1
      subst e1
      exact ⟨cur, h4⟩
  obtain ⟨cur, hcur⟩ := hgb
  have hne : gr ≠ g := fun e => by rw [e, hcur] at hb; cases hb
  have fr : W.frozen? ⟨g, i * 2 + 1, none⟩ = false := by unfold World.frozen?; simp only [hcur]; simp
  have cs := hcl i L[i] (List.getElem?_eq_getElem hi)
  obtain ⟨x1, x2, hx⟩ : ∃ x1 x2, L[i] = (x1, x2) := ⟨_, _, rfl⟩
  rw [hx] at cs
  obtain ⟨cs1, cs2⟩ := cs
  have HRD : Hid (Rd W (.slice (some ⟨g, 0, none⟩) L.length cap) L) := hrd
  have HI : Hid (i < L.length) := hi
  have HL6 : Hid (L.length ≤ 1048576) := hl6
  obtain ⟨N, hN⟩ : ∃ N, L.length = N := ⟨_, rfl⟩
  have HN : Hid (L.length = N) := hN
  rw [hN] at c0 hl6 hlm
  have hiN : i < N := by omega
  have hii : (i : Int) < (N : Int) := by omega
  clear hb hrd hcl hN hyes hx hcur
  go_enter Try.func45, Try.ntmps45
  go_wp2_with (first
    | (go_at_call 60; refine Calls.mono HH.out ?_; rintro e u ⟨j, rfl, hp, rfl⟩; rw [(HY.out j hp).1]; clear hp)
    | (go_at_call 59; refine Calls.mono HPL.out ?_; rintro e u ⟨j, rfl, hp, rfl⟩; rw [(HY.out j hp).2]; clear hp))
  go_ret
  refine ⟨rfl, ⟨?_, Rd.put HRD.out HI.out, by rw [List.length_set]; exact HL6.out⟩, grown_setC _ _ _ _⟩
  rw [heap_setCell_other W ⟨g, i * 2 + 1, none⟩ gr _ hne]
  exact HB.out
end Go.Proofs.Ytjginocbbnmgaaa
