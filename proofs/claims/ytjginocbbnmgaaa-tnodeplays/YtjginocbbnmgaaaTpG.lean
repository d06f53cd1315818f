/-
  SEAT Ytjginocbbnmgaaa: the reference's tree: Put of a new key.
-/
import Derived.Test.YtjginocbbnmgaaaTpF
namespace Go.Proofs.Ytjginocbbnmgaaa
open Go.RowKit
set_option linter.unusedVariables false

def insI (L : List (Int × Int)) (i : Nat) (p : Int × Int) (n : Nat) : List (Int × Int) := L.take i ++ p :: (L.take n).drop i
theorem insI_start (L : List (Int × Int)) (i : Nat) (p : Int × Int) (h : i ≤ L.length) : insI L i p i = L.take i ++ [p] := by
  unfold insI
  rw [List.drop_eq_nil_of_le (by simp; omega)]
theorem insI_next (L : List (Int × Int)) {i n : Nat} (p : Int × Int) (h : n < L.length) (hi : i ≤ n) : insI L i p (n + 1) = insI L i p n ++ [L[n]] := by
  unfold insI
  rw [List.take_succ_eq_append_getElem h, List.drop_append_of_le_length (by simp; omega)]
  simp
theorem insI_len (L : List (Int × Int)) {i n : Nat} (p : Int × Int) (hi : i ≤ n) (h : n ≤ L.length) : (insI L i p n).length = n + 1 := by
  unfold insI
  simp
  omega
theorem grown_set {W wr : World} (h : Below W.heap.size W wr) (gr : Nat) (v : Value) : W.grownBy (wr.setCell ⟨gr, 0, none⟩ v) (some gr) := by
  have g2 := grown_setC wr gr 0 v
  exact ⟨g2.os.trans h.os, g2.tape.trans h.tape, g2.output.trans h.output, Nat.le_trans h.size g2.size, fun q hq hne => (g2.block q (Nat.lt_of_lt_of_le hq h.size) hne).trans (h.block q hq)⟩

set_option maxHeartbeats 4000000 in
set_option maxRecDepth 100000 in
theorem rput_new (gr i : Nat) (k x : Int) (v : Value) (L : List (Int × Int)) (W : World) (h : RefOn W gr v L) (h0 : 0 ≤ k) (h1 : k ≤ 1048575) (hi : i ≤ L.length) (hl : L.length < 1048576) (hno : ∀ j, PlaceIs L k j → hasK L k j = false ∧ j = i) :
    Calls Try.prog 45 #[.pointer (some ⟨gr, 0, none⟩), .int .i64 k, .int .i64 x] W fun e w' => e = .returned (.int .i64 0) ∧ ∃ v', RefOn w' gr v' (insI L i (k, x) L.length) ∧ W.grownBy w' (some gr) ∧ ∀ q, v'.ownBlock = some q → W.heap.size ≤ q := by
  obtain ⟨i0, hi0, hz0, hz1, hz2⟩ := info_parts info35
  have HH : Hid _ := has_any gr k v L W h
  have HPL : Hid _ := place_any gr k v L W h
  have HY : Hid _ := hno
  have HB : Hid (W.heap[gr]? = some (.cells #[v] 61 (0, 0))) := h.1
  have hgr : gr < W.heap.size := by
    rcases Nat.lt_or_ge gr W.heap.size with q | q
    · exact q
    · have hb := h.1; rw [Array.getElem?_eq_none q] at hb; cases hb
  obtain ⟨a, cap, rfl, c0, hcl⟩ := ref_form h
  have q0 : ¬ k < 0 := by omega
  have q1 : ¬ 1048575 < k := by omega
  obtain ⟨N, hN⟩ : ∃ N, L.length = N := ⟨_, rfl⟩
  have HN : Hid (L.length = N) := hN
  have HCL : Hid _ := hcl
  rw [hN] at c0 hi hl
  have wi : IntKind.i64.wrap ((N : Int) + 1) = (N : Int) + 1 := by rw [IntKind.wrap_i64]; omega
  have mk : (Instr.makeSlice 28 (.int .i64 0) (.int .i64 ((N : Int) + 1))).run Try.prog W = .ok (.slice (some ⟨W.heap.size, 0, none⟩) 0 (N + 1)) (W.alloc (.cells (madeCells #[.int .i64 0, .int .i64 0] ((N + 1) * 2)) 35)) := by
    have := makeP W (N + 1) (by omega)
    rw [← this]; congr 1
  have OW0 : Hid ((W.alloc (.cells (madeCells #[.int .i64 0, .int .i64 0] ((N + 1) * 2)) 35)).ownsRow W.heap.size 35 2 (.slice (some ⟨W.heap.size, 0, none⟩) 0 (N + 1)) 0 []) := World.ownsRow_made W _ (N + 1) (Nat.le_refl _) (by simp [maxLen]; omega) (by rw [size_madeCells])
  have BL0 : Hid (Below W.heap.size W (W.alloc (.cells (madeCells #[.int .i64 0, .int .i64 0] ((N + 1) * 2)) 35))) := (Below.refl _ _).alloc (Nat.le_refl _) _
  clear h hcl hN hno
  go_enter Try.func45, Try.ntmps45
  go_wp2_with (first
    | (go_at_call 60; refine Calls.mono HH.out ?_; rintro e u ⟨j, rfl, hp, rfl⟩; rw [(HY.out j hp).1]; clear hp)
    | (go_at_call 59; refine Calls.mono HPL.out ?_; rintro e u ⟨j, rfl, hp, rfl⟩; rw [(HY.out j hp).2]; clear hp))
  clear HH HPL HY
  go_loopw [8, 9] (fun lv nv wr => ∃ n : Nat, n ≤ i ∧ nv = .int .i64 n ∧ Hid (wr.ownsRow W.heap.size 35 2 lv (L.take n).length (flatP (L.take n))) ∧ Hid (Below W.heap.size W wr)) (fun _ nv _ => i - (intOf nv).toNat)
  case atStart => exact ⟨0, by omega, rfl, OW0, BL0⟩
  case round =>
    obtain ⟨n, hn, rfl, HO, HL⟩ := hrel
    have cr : wr.cell? ⟨gr, 0, none⟩ = some (.slice a N cap) := by rw [HL.out.cell hgr]; exact c0
    have hws := HL.out.size
    have HML : Hid ((L.take n).length = n) := by show (L.take n).length = n; rw [List.length_take, HN.out]; omega
    clear OW0 BL0 mk
    by_cases hlt : n < i
    · have m1 : (n : Int) < (i : Int) := by omega
      have mN : (n : Int) < (N : Int) := by omega
      have hnL : n < L.length := by rw [HN.out]; omega
      obtain ⟨g, rfl, y1, y2⟩ := HCL.out n hnL
      obtain ⟨x1, x2, hx⟩ : ∃ x1 x2, L.getD n (0, 0) = (x1, x2) := ⟨_, _, rfl⟩
      rw [hx] at y1 y2
      rw [← HL.out.cell (World.block_lt_of_cell? _ _ y1)] at y1
      rw [← HL.out.cell (World.block_lt_of_cell? _ _ y2)] at y2
      have HS : Hid (L.take (n + 1) = L.take n ++ [(x1, x2)]) := by
        show L.take (n + 1) = _
        rw [List.take_succ_eq_append_getElem hnL, ← hx, List.getD_eq_getElem?_getD, List.getElem?_eq_getElem hnL]; rfl
      clear hx
      have OW : Hid ((wr.alloc (.cells #[.int .i64 x1, .int .i64 x2] 35)).ownsRow W.heap.size 35 2 u8 (L.take n).length (flatP (L.take n))) := World.ownsRow.alloc HO.out _
      have NB : Hid (∀ j u, ([.int .i64 x1, .int .i64 x2] : List Value)[j]? = some u → (wr.alloc (.cells #[.int .i64 x1, .int .i64 x2] 35)).cell? ((⟨wr.heap.size, 0, none⟩ : Addr).add j) = some u) := cell_two_new _ _ _ _
      have b1 : (L.take n).length + 1 ≤ maxLen := by rw [HML.out]; simp [maxLen]; omega
      have b2 : ((L.take n).length + 1) * 16 ≤ 140737488355328 := by rw [HML.out]; omega
      have b3 : W.heap.size ≤ (wr.alloc (.cells #[.int .i64 x1, .int .i64 x2] 35)).heap.size := by simp; omega
      go_wp2_with (at_builtin; refine wpList_append_own _ rfl (.tmp 43) (.tmp 51) 28 rfl W.heap.size 35 i0 _ 2 16 Try.underlying28 hi0 hz0 hz1 hz2 rfl (by decide) _ _ _ rfl OW.out ⟨wr.heap.size, 0, none⟩ 1 1 [.int .i64 x1, .int .i64 x2] rfl rfl NB.out (by simp [Value.oneCell']) b1 b2 b3 ?_; intro v1 w1 own1 grow1 _; have O1 : Hid (w1.ownsRow W.heap.size 35 2 v1 (L.take (n + 1)).length (flatP (L.take (n + 1)))) := (by rw [HS.out, flatP_snoc, List.length_append]; exact own1); have L1 : Hid (Below W.heap.size W w1) := (HL.out.alloc hws _).grown grow1 b3 (fun q hq => (HO.out.lt q hq).1); clear own1 grow1 OW NB b1 b2 b3)
      go_roundw
      case rel => exact ⟨n + 1, by omega, by go_num, O1, L1⟩
      case measure => (simp [intOf]; omega)
    · have hni : n = i := by omega
      subst hni
      have m1 : ¬ (n : Int) < (n : Int) := by omega
      have HS : Hid (insI L n (k, x) n = L.take n ++ [(k, x)]) := insI_start L n (k, x) (by rw [HN.out]; exact hi)
      have OW : Hid ((wr.alloc (.cells #[.int .i64 k, .int .i64 x] 35)).ownsRow W.heap.size 35 2 u8 (L.take n).length (flatP (L.take n))) := World.ownsRow.alloc HO.out _
      have NB : Hid (∀ j u, ([.int .i64 k, .int .i64 x] : List Value)[j]? = some u → (wr.alloc (.cells #[.int .i64 k, .int .i64 x] 35)).cell? ((⟨wr.heap.size, 0, none⟩ : Addr).add j) = some u) := cell_two_new _ _ _ _
      have b1 : (L.take n).length + 1 ≤ maxLen := by rw [HML.out]; simp [maxLen]; omega
      have b2 : ((L.take n).length + 1) * 16 ≤ 140737488355328 := by rw [HML.out]; omega
      have b3 : W.heap.size ≤ (wr.alloc (.cells #[.int .i64 k, .int .i64 x] 35)).heap.size := by simp; omega
      go_wp2_with (at_builtin; refine wpList_append_own _ rfl (.tmp 53) (.tmp 57) 28 rfl W.heap.size 35 i0 _ 2 16 Try.underlying28 hi0 hz0 hz1 hz2 rfl (by decide) _ _ _ rfl OW.out ⟨wr.heap.size, 0, none⟩ 1 1 [.int .i64 k, .int .i64 x] rfl rfl NB.out (by simp [Value.oneCell']) b1 b2 b3 ?_; intro v1 w1 own1 grow1 _; have O1 : Hid (w1.ownsRow W.heap.size 35 2 v1 (insI L n (k, x) n).length (flatP (insI L n (k, x) n))) := (by rw [HS.out, flatP_snoc, List.length_append]; exact own1); have L1 : Hid (Below W.heap.size W w1) := (HL.out.alloc hws _).grown grow1 b3 (fun q hq => (HO.out.lt q hq).1); clear own1 grow1 OW NB b1 b2 b3)
      clear HS HML HO HL hws cr
      go_loopw [8, 10] (fun lv nv wr => ∃ m : Nat, n ≤ m ∧ m ≤ N ∧ nv = .int .i64 m ∧ Hid (wr.ownsRow W.heap.size 35 2 lv (insI L n (k, x) m).length (flatP (insI L n (k, x) m))) ∧ Hid (Below W.heap.size W wr)) (fun _ nv _ => N - (intOf nv).toNat)
      case atStart => exact ⟨n, Nat.le_refl _, hi, rfl, O1, L1⟩
      case round =>
        obtain ⟨m, hnm, hm, rfl, HO, HL⟩ := hrel
        have cr : wr.cell? ⟨gr, 0, none⟩ = some (.slice a N cap) := by rw [HL.out.cell hgr]; exact c0
        have hws := HL.out.size
        have HML : Hid ((insI L n (k, x) m).length = m + 1) := insI_len L (k, x) hnm (by rw [HN.out]; exact hm)
        clear O1 L1
        by_cases hlt2 : m < N
        · have m2 : (m : Int) < (N : Int) := by omega
          have hmL : m < L.length := by rw [HN.out]; omega
          obtain ⟨g, rfl, y1, y2⟩ := HCL.out m hmL
          obtain ⟨x1, x2, hx⟩ : ∃ x1 x2, L.getD m (0, 0) = (x1, x2) := ⟨_, _, rfl⟩
          rw [hx] at y1 y2
          rw [← HL.out.cell (World.block_lt_of_cell? _ _ y1)] at y1
          rw [← HL.out.cell (World.block_lt_of_cell? _ _ y2)] at y2
          have HS : Hid (insI L n (k, x) (m + 1) = insI L n (k, x) m ++ [(x1, x2)]) := by
            show insI L n (k, x) (m + 1) = _
            rw [insI_next L (k, x) hmL hnm, ← hx, List.getD_eq_getElem?_getD, List.getElem?_eq_getElem hmL]; rfl
          clear hx
          have OW : Hid ((wr.alloc (.cells #[.int .i64 x1, .int .i64 x2] 35)).ownsRow W.heap.size 35 2 u8 (insI L n (k, x) m).length (flatP (insI L n (k, x) m))) := World.ownsRow.alloc HO.out _
          have NB : Hid (∀ j u, ([.int .i64 x1, .int .i64 x2] : List Value)[j]? = some u → (wr.alloc (.cells #[.int .i64 x1, .int .i64 x2] 35)).cell? ((⟨wr.heap.size, 0, none⟩ : Addr).add j) = some u) := cell_two_new _ _ _ _
          have b1 : (insI L n (k, x) m).length + 1 ≤ maxLen := by rw [HML.out]; simp [maxLen]; omega
          have b2 : ((insI L n (k, x) m).length + 1) * 16 ≤ 140737488355328 := by rw [HML.out]; omega
          have b3 : W.heap.size ≤ (wr.alloc (.cells #[.int .i64 x1, .int .i64 x2] 35)).heap.size := by simp; omega
          go_wp2_with (at_builtin; refine wpList_append_own _ rfl (.tmp 69) (.tmp 77) 28 rfl W.heap.size 35 i0 _ 2 16 Try.underlying28 hi0 hz0 hz1 hz2 rfl (by decide) _ _ _ rfl OW.out ⟨wr.heap.size, 0, none⟩ 1 1 [.int .i64 x1, .int .i64 x2] rfl rfl NB.out (by simp [Value.oneCell']) b1 b2 b3 ?_; intro v2 w2 own1 grow1 _; have O2 : Hid (w2.ownsRow W.heap.size 35 2 v2 (insI L n (k, x) (m + 1)).length (flatP (insI L n (k, x) (m + 1)))) := (by rw [HS.out, flatP_snoc, List.length_append]; exact own1); have L2 : Hid (Below W.heap.size W w2) := (HL.out.alloc hws _).grown grow1 b3 (fun q hq => (HO.out.lt q hq).1); clear own1 grow1 OW NB b1 b2 b3)
          go_roundw
          case rel => exact ⟨m + 1, by omega, by omega, by go_num, O2, L2⟩
          case measure => (simp [intOf]; omega)
        · have hmN : m = N := by omega
          subst hmN
          have m2 : ¬ (m : Int) < (m : Int) := by omega
          have hbr : Hid (wr.heap[gr]? = some (.cells #[.slice a L.length cap] 61 (0, 0))) := by
            show wr.heap[gr]? = _
            rw [HL.out.block gr hgr]; exact HB.out
          have fr : wr.frozen? ⟨gr, 0, none⟩ = false := by unfold World.frozen?; simp only [hbr.out]; simp
          obtain ⟨la, lc, hlv⟩ := row_shape HO.out
          subst hlv
          rw [HML.out] at HO
          rw [HML.out]
          go_wp2_with fail
          go_ret
          rw [HN.out]
          refine ⟨rfl, _, ⟨heap_setCell_same wr gr 0 _ 61 _ hbr.out, Rd.setBox (Rd.of (by rw [HML.out]; exact HO.out)) hbr.out, by rw [HML.out]; omega⟩, grown_set HL.out gr _, fun q hq => (HO.out.lt q hq).1⟩
end Go.Proofs.Ytjginocbbnmgaaa
