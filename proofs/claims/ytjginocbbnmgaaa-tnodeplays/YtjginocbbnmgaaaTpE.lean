/-
  SEAT Ytjginocbbnmgaaa: the reference's tree: Drop.
-/
import Derived.Test.YtjginocbbnmgaaaTpD
namespace Go.Proofs.Ytjginocbbnmgaaa
open Go.RowKit
set_option linter.unusedVariables false

theorem place_hit {L : List (Int × Int)} {k : Int} {i : Nat} (h : PlaceIs L k i) : hasK L k i = true ↔ i < L.length ∧ (L.getD i (0, 0)).1 = k := by unfold hasK; simp
set_option maxHeartbeats 4000000 in
set_option maxRecDepth 100000 in
theorem rdrop_none (gr : Nat) (k : Int) (v : Value) (L : List (Int × Int)) (W : World) (h : RefOn W gr v L) (hno : ∀ i, PlaceIs L k i → hasK L k i = false) :
    Calls Try.prog 47 #[.pointer (some ⟨gr, 0, none⟩), .int .i64 k] W fun e w' => e = .returned (.bool false) ∧ W = w' := by
  have HH : Hid _ := has_any gr k v L W h
  have HN : Hid _ := hno
  clear h hno
  go_enter Try.func47, Try.ntmps47
  go_wp2_with (first | (go_at_call 60; refine Calls.mono HH.out ?_; rintro e u ⟨i, rfl, hp, rfl⟩; rw [HN.out i hp]; clear hp))
  go_ret
  exact ⟨rfl, rfl⟩

theorem makeP (u : World) (N : Nat) (hN : N ≤ 1048576) : (Instr.makeSlice 28 (.int .i64 0) (.int .i64 (N : Int))).run Try.prog u = .ok (.slice (some ⟨u.heap.size, 0, none⟩) 0 N) (u.alloc (.cells (madeCells #[.int .i64 0, .int .i64 0] (N * 2)) 35)) := by
  obtain ⟨i0, hi, hz0, hz1, hz2⟩ := info_parts info35
  have h := run_makeSlice u 28 35 i0 _ Try.underlying28 hi hz0 .i64 .i64 0 N (by omega) (by omega) (by rw [hz1]; omega) (by rw [hz2]; omega) (by omega)
  rw [h, hz1]
  simp
  rfl
theorem row_shape {w : World} {B n : Nat} {v : Value} {xs : List Value} (h : w.ownsRow B 35 2 v n xs) : ∃ a c, v = .slice a n c := by
  rcases h.2 with ⟨h1, h2⟩ | ⟨g, cap, cur, hv, _⟩
  · exact ⟨none, 0, by rw [h1, h2]⟩
  · exact ⟨_, _, hv⟩
def outI (L : List (Int × Int)) (i n : Nat) : List (Int × Int) := (L.take n).eraseIdx i
theorem outI_skip (L : List (Int × Int)) (i : Nat) (h : i < L.length) : outI L i (i + 1) = outI L i i := by
  unfold outI
  have e : (L.take i).length = i := by simp; omega
  have e2 : (L.take i).eraseIdx i = L.take i := List.eraseIdx_of_length_le (by omega)
  rw [List.take_succ_eq_append_getElem h, List.eraseIdx_append_of_length_le (by omega), e2, e, Nat.sub_self]
  simp
theorem outI_next (L : List (Int × Int)) {i n : Nat} (h : n < L.length) (hne : n ≠ i) : outI L i (n + 1) = outI L i n ++ [L[n]] := by
  unfold outI
  rw [List.take_succ_eq_append_getElem h]
  have e : (L.take n).length = n := by simp; omega
  rcases Nat.lt_or_gt_of_ne hne with q | q
  · rw [List.eraseIdx_of_length_le (by simp; omega), List.eraseIdx_of_length_le (by omega)]
  · rw [List.eraseIdx_append_of_lt_length (by omega)]
theorem outI_len (L : List (Int × Int)) (i n : Nat) : (outI L i n).length ≤ L.length := by
  unfold outI
  have := List.length_eraseIdx_le (L.take n) i
  simp at this
  omega

set_option maxHeartbeats 4000000 in
set_option maxRecDepth 100000 in
theorem rdrop_some (gr i : Nat) (k : Int) (v : Value) (L : List (Int × Int)) (W : World) (h : RefOn W gr v L) (hi : i < L.length) (hyes : ∀ j, PlaceIs L k j → hasK L k j = true ∧ j = i) :
    Calls Try.prog 47 #[.pointer (some ⟨gr, 0, none⟩), .int .i64 k] W fun e w' => e = .returned (.bool true) ∧ ∃ v', RefOn w' gr v' (L.eraseIdx i) ∧ W.grownBy w' (some gr) ∧ ∀ q, v'.ownBlock = some q → W.heap.size ≤ q := by
  obtain ⟨i0, hi0, hz0, hz1, hz2⟩ := info_parts info35
  have HH : Hid _ := has_any gr k v L W h
  have HPL : Hid _ := place_any gr k v L W h
  have HY : Hid _ := hyes
  obtain ⟨hb, hrd, hl6⟩ := h
  have HB : Hid (W.heap[gr]? = some (.cells #[v] 61 (0, 0))) := hb
  have c0 : W.cell? ⟨gr, 0, none⟩ = some v := by rw [cell_of_row _ _ 0 _ 61 (0, 0) hb]; rfl
  have hgr : gr < W.heap.size := by
    rcases Nat.lt_or_ge gr W.heap.size with q | q
    · exact q
    · rw [Array.getElem?_eq_none q] at hb; cases hb
  rcases Rd.reads hrd with ⟨rfl, rfl⟩ | ⟨g, cap, rfl, hlm, hcl⟩
  · simp at hi
  obtain ⟨N, hN⟩ : ∃ N, L.length = N := ⟨_, rfl⟩
  have HN : Hid (L.length = N) := hN
  have HRD : Hid (Rd W (.slice (some ⟨g, 0, none⟩) L.length cap) L) := hrd
  have HCL : Hid _ := hcl
  rw [hN] at c0 hl6 hlm hi
  have mk := makeP W N hl6
  have OW0 : Hid ((W.alloc (.cells (madeCells #[.int .i64 0, .int .i64 0] (N * 2)) 35)).ownsRow W.heap.size 35 2 (.slice (some ⟨W.heap.size, 0, none⟩) 0 N) 0 []) := World.ownsRow_made W _ N (Nat.le_refl _) (by simp [maxLen]; omega) (by rw [size_madeCells])
  have BL0 : Hid (Below W.heap.size W (W.alloc (.cells (madeCells #[.int .i64 0, .int .i64 0] (N * 2)) 35))) := (Below.refl _ _).alloc (Nat.le_refl _) _
  have ca : (W.alloc (.cells (madeCells #[.int .i64 0, .int .i64 0] (N * 2)) 35)).cell? ⟨gr, 0, none⟩ = some (.slice (some ⟨g, 0, none⟩) N cap) := by rw [BL0.out.cell hgr]; exact c0
  clear hb hrd hcl hN hyes
  go_enter Try.func47, Try.ntmps47
  go_wp2_with (first
    | (go_at_call 60; refine Calls.mono HH.out ?_; rintro e u ⟨j, rfl, hp, rfl⟩; rw [(HY.out j hp).1]; clear hp)
    | (go_at_call 59; refine Calls.mono HPL.out ?_; rintro e u ⟨j, rfl, hp, rfl⟩; rw [(HY.out j hp).2]; clear hp))
  clear HH HPL HY
  go_loopw [6, 7] (fun lv nv wr => ∃ n : Nat, n ≤ N ∧ nv = .int .i64 n ∧ Hid (wr.ownsRow W.heap.size 35 2 lv (outI L i n).length (flatP (outI L i n))) ∧ Hid (Below W.heap.size W wr)) (fun _ nv _ => N - (intOf nv).toNat)
  case atStart => exact ⟨0, by omega, rfl, by have e : outI L i 0 = [] := rfl
                                              rw [e]; exact OW0, BL0⟩
  case round =>
    obtain ⟨n, hn, rfl, HO, HL⟩ := hrel
    have cr : wr.cell? ⟨gr, 0, none⟩ = some (.slice (some ⟨g, 0, none⟩) N cap) := by rw [HL.out.cell hgr]; exact c0
    have hbr : Hid (wr.heap[gr]? = some (.cells #[.slice (some ⟨g, 0, none⟩) L.length cap] 61 (0, 0))) := by
      show wr.heap[gr]? = _
      rw [HL.out.block gr hgr]; exact HB.out
    have hws := HL.out.size
    clear OW0 BL0 ca mk
    by_cases hlt : n < N
    · have m1 : (n : Int) < (N : Int) := by omega
      have hnL : n < L.length := by rw [HN.out]; exact hlt
      obtain ⟨x1, x2, hx⟩ : ∃ x1 x2, L[n] = (x1, x2) := ⟨_, _, rfl⟩
      have hh := HCL.out n (x1, x2) (by rw [List.getElem?_eq_getElem hnL, hx])
      have y1 := hh.1
      have y2 := hh.2
      rw [← HL.out.cell (World.block_lt_of_cell? _ _ hh.1)] at y1
      rw [← HL.out.cell (World.block_lt_of_cell? _ _ hh.2)] at y2
      have HX : Hid (L[n] = (x1, x2)) := hx
      clear hh hx
      by_cases hni : n = i
      · have HS : Hid (outI L i (n + 1) = outI L i n) := by rw [hni]; exact outI_skip L i (by rw [HN.out]; exact hi)
        have f1 : ((n : Int) != (i : Int)) = false := by simp [hni]
        have hni' : (n : Int) = (i : Int) := by rw [hni]
        clear hni
        go_wp2_with fail
        go_roundw
        case rel => exact ⟨n + 1, by omega, by go_num, by rw [HS.out]; exact HO, HL⟩
        case measure => (simp [intOf]; omega)
      · have HS : Hid (outI L i (n + 1) = outI L i n ++ [(x1, x2)]) := by
          show outI L i (n + 1) = _
          rw [outI_next L hnL hni, HX.out]
        have f1 : ((n : Int) != (i : Int)) = true := by simp; omega
        have hni' : ¬ (n : Int) = (i : Int) := by omega
        have OW : Hid ((wr.alloc (.cells #[.int .i64 x1, .int .i64 x2] 35)).ownsRow W.heap.size 35 2 u6 (outI L i n).length (flatP (outI L i n))) := World.ownsRow.alloc HO.out _
        have NB : Hid (∀ j u, ([.int .i64 x1, .int .i64 x2] : List Value)[j]? = some u → (wr.alloc (.cells #[.int .i64 x1, .int .i64 x2] 35)).cell? ((⟨wr.heap.size, 0, none⟩ : Addr).add j) = some u) := cell_two_new _ _ _ _
        have hol := outI_len L i n
        rw [HN.out] at hol
        have b1 : (outI L i n).length + 1 ≤ maxLen := by simp [maxLen]; omega
        have b2 : ((outI L i n).length + 1) * 16 ≤ 140737488355328 := by omega
        have b3 : W.heap.size ≤ (wr.alloc (.cells #[.int .i64 x1, .int .i64 x2] 35)).heap.size := by simp; omega
        clear hni hol
        go_wp2_with (at_builtin; refine wpList_append_own _ rfl (.tmp 33) (.tmp 41) 28 rfl W.heap.size 35 i0 _ 2 16 Try.underlying28 hi0 hz0 hz1 hz2 rfl (by decide) _ _ _ rfl OW.out ⟨wr.heap.size, 0, none⟩ 1 1 [.int .i64 x1, .int .i64 x2] rfl rfl NB.out (by simp [Value.oneCell']) b1 b2 b3 ?_; intro v1 w1 own1 grow1 _; have O1 : Hid (w1.ownsRow W.heap.size 35 2 v1 (outI L i (n + 1)).length (flatP (outI L i (n + 1)))) := (by rw [HS.out, flatP_snoc, List.length_append]; exact own1); have L1 : Hid (Below W.heap.size W w1) := (HL.out.alloc hws _).grown grow1 b3 (fun q hq => (HO.out.lt q hq).1); clear own1 grow1 OW NB)
        go_roundw
        case rel => exact ⟨n + 1, by omega, by go_num, O1, L1⟩
        case measure => (simp [intOf]; omega)
    · have hnN : n = N := by omega
      have m1 : ¬ (n : Int) < (N : Int) := by omega
      have HE : Hid (outI L i n = L.eraseIdx i) := by
        show outI L i n = _
        unfold outI
        rw [hnN, ← HN.out, List.take_length]
      have fr : wr.frozen? ⟨gr, 0, none⟩ = false := by unfold World.frozen?; simp only [hbr.out]; simp
      have hol := outI_len L i n
      rw [HN.out] at hol
      have HOL : Hid ((outI L i n).length ≤ 1048576) := by show (outI L i n).length ≤ 1048576; omega
      obtain ⟨la, lc, hlv⟩ := row_shape HO.out
      subst hlv
      obtain ⟨m, hm⟩ : ∃ m, (outI L i n).length = m := ⟨_, rfl⟩
      have HM : Hid ((outI L i n).length = m) := hm
      rw [hm]
      rw [hm] at HO HOL
      clear hnN hol hm
      go_wp2_with fail
      go_ret
      refine ⟨rfl, _, ⟨heap_setCell_same wr gr 0 _ 61 _ hbr.out, ?_, ?_⟩, ?_, fun q hq => (HO.out.lt q hq).1⟩
      · rw [← HE.out]; exact Rd.setBox (Rd.of (by rw [HM.out]; exact HO.out)) hbr.out
      · rw [← HE.out, HM.out]; exact HOL.out
      · have g2 := grown_setC wr gr 0 (.slice la m lc)
        exact ⟨g2.os.trans HL.out.os, g2.tape.trans HL.out.tape, g2.output.trans HL.out.output, Nat.le_trans HL.out.size g2.size, fun q hq hne => (g2.block q (Nat.lt_of_lt_of_le hq HL.out.size) hne).trans (HL.out.block q hq)⟩
end Go.Proofs.Ytjginocbbnmgaaa
