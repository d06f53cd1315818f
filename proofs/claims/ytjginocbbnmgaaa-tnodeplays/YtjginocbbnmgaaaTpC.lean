/-
  SEAT Ytjginocbbnmgaaa: the reference's tree: Cut.
-/
import Derived.Test.YtjginocbbnmgaaaTpB
namespace Go.Proofs.Ytjginocbbnmgaaa
open Go.RowKit
set_option linter.unusedVariables false

theorem flatP_take (L : List (Int × Int)) : ∀ i, flatP (L.take i) = (flatP L).take (i * 2) := by
  induction L with
  | nil => intro i; simp [flatP]
  | cons x L ih =>
    intro i
    cases i with
    | zero => simp [flatP]
    | succ i =>
      have e : ∀ M : List (Int × Int), flatP (x :: M) = .int .i64 x.1 :: .int .i64 x.2 :: flatP M := fun _ => rfl
      rw [List.take_succ_cons, e, e, ih i, show (i + 1) * 2 = i * 2 + 1 + 1 by omega, List.take_succ_cons, List.take_succ_cons]
/-- What a slice of a slice of pairs shows. -/
theorem Rd.front {W : World} {g cap n : Nat} {L : List (Int × Int)} (h : Rd W (.slice (some ⟨g, 0, none⟩) n cap) L) (hn : L.length = n) {i : Nat} (hi : i ≤ n) : Rd W (.slice (some ⟨g, 0, none⟩) i cap) (L.take i) ∧ n ≤ cap ∧ cap ≤ maxLen := by
  obtain ⟨h1, ⟨h2, _⟩ | ⟨g', cap', cur, h2, h3, h4, h5, h6, h7, h8⟩⟩ := h
  · cases h2
  · injection h2 with e1 e2 e3
    injection e1 with e1
    injection e1 with e1
    subst e1 e3
    have hl : (L.take i).length = i := by rw [List.length_take]; omega
    refine ⟨⟨by rw [flatP_len], Or.inr ⟨g, cap, cur, by rw [hl], h3, h4, by rw [hl]; omega, h6, h7, ?_⟩⟩, by omega, h6⟩
    rw [hl, flatP_take, ← h8, List.take_take]
    congr 1
    omega
theorem Rd.setBox {W : World} {v x : Value} {L : List (Int × Int)} {gr : Nat} {y : Value} (h : Rd W v L) (hb : W.heap[gr]? = some (.cells #[y] 61 (0, 0))) : Rd (W.setCell ⟨gr, 0, none⟩ x) v L := by
  obtain ⟨h1, h2⟩ := h
  refine ⟨h1, h2.imp id (fun ⟨g, cap, cur, a, b, c, d⟩ => ⟨g, cap, cur, a, b, ?_, d⟩)⟩
  rw [heap_setCell_other W ⟨gr, 0, none⟩ g _ (fun e => ?_)]
  · exact c
  · have e' : g = gr := e
    rw [e', hb] at c
    cases c
set_option maxHeartbeats 4000000 in
set_option maxRecDepth 100000 in
theorem rcut_any (gr : Nat) (k : Int) (v : Value) (L : List (Int × Int)) (W : World) (h : RefOn W gr v L) :
    Calls Try.prog 48 #[.pointer (some ⟨gr, 0, none⟩), .int .i64 k] W fun e w' => ∃ i v', e = .returned (.int .i64 ((L.length - i : Nat) : Int)) ∧ PlaceIs L k i ∧ RefOn w' gr v' (L.take i) ∧ W.grownBy w' (some gr) := by
  have HPL : Hid _ := place_any gr k v L W h
  obtain ⟨hb, hrd, hl6⟩ := h
  have HB : Hid _ := hb
  have c0 : W.cell? ⟨gr, 0, none⟩ = some v := by rw [cell_of_row _ _ 0 _ 61 (0, 0) hb]; rfl
  have f0 : W.frozen? ⟨gr, 0, none⟩ = false := by unfold World.frozen?; simp only [hb]; simp
  have hset : ∀ x, (W.setCell ⟨gr, 0, none⟩ x).heap[gr]? = some (.cells #[x] 61 (0, 0)) := fun x => by rw [heap_setCell_same W gr 0 _ 61 x hb]; rfl
  have HSET : Hid _ := hset
  have HRD : Hid (Rd W v L) := hrd
  have HL6 : Hid _ := hl6
  rcases Rd.reads hrd with ⟨rfl, rfl⟩ | ⟨g, cap, rfl, _, _⟩
  · clear hb hrd hl6 hset
    go_enter Try.func48, Try.ntmps48
    go_wp2_with (first | (go_at_call 59; refine Calls.mono HPL.out ?_; rintro e u ⟨i, rfl, hp, rfl⟩; obtain rfl : i = 0 := Nat.le_zero.1 hp.1; have HP : Hid _ := hp; clear hp))
    go_ret
    exact ⟨0, _, rfl, HP.out, ⟨HSET.out _, Rd.setBox HRD.out HB.out, by simp⟩, grown_setC _ _ _ _⟩
  · obtain ⟨N, hN⟩ : ∃ N, L.length = N := ⟨_, rfl⟩
    rw [hN] at c0 HRD hl6
    have HN : Hid _ := hN
    have hcp := (Rd.front HRD.out HN.out (Nat.zero_le _)).2
    have HCP : Hid _ := hcp
    have HN6 : Hid _ := hl6
    clear hb hrd hl6 hset hcp hN
    go_enter Try.func48, Try.ntmps48
    go_upto_region 2 with (first | (go_at_call 59; refine Calls.mono HPL.out ?_; rintro e u ⟨i, rfl, hp, rfl⟩; have HP : Hid _ := hp; clear hp))
    have hi : i ≤ N := by rw [← HN.out]; exact HP.out.1
    have d1 : (i : Int) ≤ (cap : Int) := by have := HCP.out.1; omega
    have w1 : IntKind.i64.wrap ((N : Int) - (i : Int)) = (N : Int) - (i : Int) := by have := HN6.out; rw [IntKind.wrap_i64]; omega
    go_wp2_with fail
    go_ret
    refine ⟨i, _, ?_, HP.out, ⟨HSET.out _, Rd.setBox (Rd.front HRD.out HN.out hi).1 HB.out, by rw [List.length_take]; have := HL6.out; omega⟩, grown_setC _ _ _ _⟩
    rw [HN.out, Int.natCast_sub hi]
    rfl
end Go.Proofs.Ytjginocbbnmgaaa
