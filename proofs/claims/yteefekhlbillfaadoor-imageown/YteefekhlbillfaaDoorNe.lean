/-
  SEAT YteefekhlbillfaaDoor: a page; marks as bits.
-/
import Derived.Test.YteefekhlbillfaaDoorNd
namespace Go.Proofs.YteefekhlbillfaaDoor
open Go.RowKit
set_option linter.unusedVariables false

set_option maxHeartbeats 1000000 in
set_option maxRecDepth 100000 in
theorem page_any (B q bk off L cap C : Nat) (a' : Option Addr) (n' cap' : Nat) (pg ah : List Int) (st : St) (w : World) (hW : WrAt w B q st) (hl : st.laid.length ≤ 900000000) (hl2 : 2 ≤ st.laid.length) (hct : st.count ≤ 65535) (hr : Reads w (some ⟨bk, off, none⟩) L pg) (hr' : Reads w a' n' ah) (hbk : bk < B) (hCL : C < L) (hLc : L ≤ cap) (hL : L ≤ 65535) (hcap : cap ≤ 9223372036854775807) :
    Calls Tryd.prog 41 #[.pointer (some ⟨q, 0, none⟩), .slice (some ⟨bk, off, none⟩) L cap, .slice a' n' cap', .int .i64 (C : Int)] w fun e w' => e = .returned (.tuple #[]) ∧ WrAt w' B q (pageS C st ah pg) ∧ Kw B w w' := by
  unfold pageS
  cases hb : blankB pg with
  | true =>
    rw [if_pos rfl]
    go_enter Tryd.func41, Tryd.ntmps41
    go_wp2_with (first
      | (go_at_call 66; refine (isBlank_any _ _ _ pg _ (by omega) hr).mono ?_; rintro e u0 ⟨rfl, hu0⟩; rw [hu0, hb])
      | (go_at_call 67; refine (run_any B q 0 st _ hW hl hl2 (by omega) hct).mono ?_; rintro e u1 ⟨rfl, wr1, kw1⟩))
    go_end0
    exact ⟨rfl, wr1, kw1⟩
  | false =>
    rw [if_neg (by simp)]
    by_cases he : pg = ah
    · rw [if_pos he]
      have hd : decide (pg = ah) = true := decide_eq_true he
      clear he
      go_enter Tryd.func41, Tryd.ntmps41
      go_wp2_with (first
        | (go_at_call 66; refine (isBlank_any _ _ _ pg _ (by omega) hr).mono ?_; rintro e u0 ⟨rfl, hu0⟩; rw [hu0, hb])
        | (go_at_call 46; refine (equal_any _ _ _ _ _ _ pg ah _ hr hr').mono ?_; rintro e u0 ⟨rfl, hu0⟩; rw [hu0, hd])
        | (go_at_call 67; refine (run_any B q 2 st _ hW hl hl2 (by omega) hct).mono ?_; rintro e u1 ⟨rfl, wr1, kw1⟩))
      go_end0
      exact ⟨rfl, wr1, kw1⟩
    · rw [if_neg he]
      have hd : decide (pg = ah) = false := decide_eq_false he
      clear he
      go_enter Tryd.func41, Tryd.ntmps41
      go_wp2_with (first
        | (go_at_call 66; refine (isBlank_any _ _ _ pg _ (by omega) hr).mono ?_; rintro e u0 ⟨rfl, hu0⟩; rw [hu0, hb])
        | (go_at_call 46; refine (equal_any _ _ _ _ _ _ pg ah _ hr hr').mono ?_; rintro e u0 ⟨rfl, hu0⟩; rw [hu0, hd])
        | (go_at_call 68; refine (told_any B q bk off L cap C pg st _ hW hl hr hbk hCL hLc hL hcap).mono ?_; rintro e u1 ⟨rfl, wr1, kw1⟩))
      go_end0
      exact ⟨rfl, wr1, kw1⟩

theorem grownBy_drew {a b : World} {r : Option Nat} (h : a.grownBy b r) : a.grownBy b.drew r := ⟨h.os, h.tape, h.output, h.size, h.block⟩

/-- One bit turned round. -/
def flipL (xs : List Int) (j : Nat) : List Int := xs.set (j / 8) (bits .xor .u8 (xs.getD (j / 8) 0) (2 ^ (j % 8) % 256))

theorem flip_ok (B g m cap l j : Nat) (xs : List Int) (w : World) (hl : l ≤ 140737488355000) (hj : j < 8 * l) (hlm : l ≤ m) (hown : Own w B g m cap xs) :
    Calls Tryd.prog 64 #[.slice (some ⟨g, 0, none⟩) l cap, .int .i64 j] w fun e w' => e = .returned (.int .i64 0) ∧ Own w' B g m cap (flipL xs j) ∧ w.grownBy w' (some g) := by
  obtain ⟨z, hz⟩ : ∃ z, z = xs.getD (j / 8) 0 := ⟨_, rfl⟩
  have hcx : w.cell? ⟨g, j / 8, none⟩ = some (.int .u8 z) := by rw [hz]; exact hown.cell (j / 8) (by omega)
  have hfz : w.frozen? ⟨g, j / 8, none⟩ = false := World.ownsRow.frozenAt hown (j / 8)
  have i1 : (j : Int) / 8 < (l : Int) := by omega
  obtain ⟨hs1, hs2⟩ := hown.set (j / 8) (bits .xor .u8 z (2 ^ (j % 8) % 256))
  have HS1 : Hid (Own (w.setCell ⟨g, j / 8, none⟩ (.int .u8 (bits .xor .u8 z (2 ^ (j % 8) % 256)))) B g m cap (flipL xs j)) := by unfold flipL; rw [← hz]; exact hs1
  have HS2 : Hid (w.grownBy (w.setCell ⟨g, j / 8, none⟩ (.int .u8 (bits .xor .u8 z (2 ^ (j % 8) % 256)))) (some g)) := hs2
  clear hz hs1 hs2 hown
  go_enter Tryd.func64, Tryd.ntmps64
  go_wp2
  go_region
  all_goals go_wp2
  all_goals go_ret
  exact ⟨rfl, Own.drew1 HS1.out, grownBy_drew HS2.out⟩

theorem flipL_length (xs : List Int) (j : Nat) : (flipL xs j).length = xs.length := by simp [flipL]

theorem xor_b (z y : Int) (h0 : 0 ≤ z) (h1 : z ≤ 255) (h2 : 0 ≤ y) (h3 : y ≤ 255) : 0 ≤ bits .xor .u8 z y ∧ bits .xor .u8 z y ≤ 255 ∧ bits .xor .u8 (bits .xor .u8 z y) y = z := by
  obtain ⟨z, rfl⟩ := Int.eq_ofNat_of_zero_le h0
  obtain ⟨y, rfl⟩ := Int.eq_ofNat_of_zero_le h2
  have hx : z ^^^ y < 2 ^ 8 := Nat.xor_lt_two_pow (by omega) (by omega)
  rw [u8_xor_nat z y (by omega) (by omega), u8_xor_nat _ y (by omega) (by omega), Nat.xor_assoc, Nat.xor_self, Nat.xor_zero]
  omega

/-- So many bytes of the marks. -/
def bitsN (mk : List Bool) (N : Nat) : List Int := (List.range N).map fun i => ((bitsTo mk i 8 : Nat) : Int)

theorem bitsTo_congr (mk mk' : List Bool) (i c : Nat) (h : ∀ j, j < c → mk.getD (8 * i + j) false = mk'.getD (8 * i + j) false) : bitsTo mk i c = bitsTo mk' i c := by
  induction c with
  | zero => rfl
  | succ c ih => rw [bitsTo, bitsTo, ih (fun j hj => h j (by omega)), h c (by omega)]

theorem bitsTo_stop (mk : List Bool) (i c d : Nat) (h : ∀ j, c ≤ j → j < c + d → mk.getD (8 * i + j) false = false) : bitsTo mk i (c + d) = bitsTo mk i c := by
  induction d with
  | zero => rfl
  | succ d ih => rw [← Nat.add_assoc, bitsTo, ih (fun j h1 h2 => h j h1 (by omega)), h (c + d) (by omega) (by omega)]; simp

theorem bitsTo_stop8 (mk : List Bool) (i c : Nat) (hc : c ≤ 8) (h : ∀ j, c ≤ j → j < 8 → mk.getD (8 * i + j) false = false) : bitsTo mk i 8 = bitsTo mk i c := by
  have := bitsTo_stop mk i c (8 - c) (fun j h1 h2 => h j h1 (by omega))
  rwa [show c + (8 - c) = 8 by omega] at this

theorem getD_take (mk : List Bool) (k j : Nat) : (mk.take k).getD j false = if j < k then mk.getD j false else false := by
  simp only [List.getD_eq_getElem?_getD, List.getElem?_take]
  split <;> simp

/-- One bit more. -/
theorem bitsN_step (mk : List Bool) (N k : Nat) (hk : k < mk.length) (hN : k / 8 < N) :
    bitsN (mk.take (k + 1)) N = if mk.getD k false then flipL (bitsN (mk.take k) N) k else bitsN (mk.take k) N := by
  have hone : ∀ i, i < N → i ≠ k / 8 → bitsTo (mk.take (k + 1)) i 8 = bitsTo (mk.take k) i 8 := by
    intro i _ hi
    apply bitsTo_congr
    intro j hj
    rw [getD_take, getD_take]
    by_cases h : 8 * i + j < k
    · rw [if_pos h, if_pos (by omega)]
    · rw [if_neg h]
      by_cases h2 : 8 * i + j = k
      · exfalso; omega
      · rw [if_neg (by omega)]
  have hlow : bitsTo (mk.take k) (k / 8) 8 = bitsTo mk (k / 8) (k % 8) := by
    rw [bitsTo_stop8 (mk.take k) (k / 8) (k % 8) (by omega) (fun j h1 h2 => by rw [getD_take, if_neg (by omega)])]
    apply bitsTo_congr
    intro j hj
    rw [getD_take, if_pos (by omega)]
  have hnew : bitsTo (mk.take (k + 1)) (k / 8) 8 = bitsTo mk (k / 8) (k % 8) + if mk.getD k false then 2 ^ (k % 8) else 0 := by
    rw [bitsTo_stop8 (mk.take (k + 1)) (k / 8) (k % 8 + 1) (by omega) (fun j h1 h2 => by rw [getD_take, if_neg (by omega)])]
    rw [bitsTo, show 8 * (k / 8) + k % 8 = k by omega, getD_take, if_pos (show k < k + 1 by omega)]
    congr 1
    apply bitsTo_congr
    intro j hj
    rw [getD_take, if_pos (by omega)]
  have hlt := bitsTo_lt mk (k / 8) (k % 8)
  have hp : (2 : Nat) ^ (k % 8) ≤ 2 ^ 7 := Nat.pow_le_pow_right (by decide) (by omega)
  have hget : (bitsN (mk.take k) N).getD (k / 8) 0 = ((bitsTo mk (k / 8) (k % 8) : Nat) : Int) := by
    rw [List.getD_eq_getElem?_getD, List.getElem?_eq_getElem (by simp [bitsN]; exact hN)]
    simp [bitsN, hlow]
  have hL : ∀ i h, (bitsN (mk.take (k + 1)) N)[i]'h = ((bitsTo (mk.take (k + 1)) i 8 : Nat) : Int) := by intro i h; simp [bitsN]
  have hR : ∀ i h, (bitsN (mk.take k) N)[i]'h = ((bitsTo (mk.take k) i 8 : Nat) : Int) := by intro i h; simp [bitsN]
  cases hm : mk.getD k false with
  | false =>
    rw [hm] at hnew
    simp only [Bool.false_eq_true, if_false, Nat.add_zero] at hnew ⊢
    apply List.ext_getElem
    · simp [bitsN]
    · intro i h1 h2
      have hiN : i < N := by simpa [bitsN] using h1
      rw [hL, hR]
      by_cases hi : i = k / 8
      · subst hi
        rw [hnew, hlow]
      · rw [hone i hiN hi]
  | true =>
    rw [hm] at hnew
    simp only [if_true] at hnew ⊢
    unfold flipL
    apply List.ext_getElem
    · simp [bitsN]
    · intro i h1 h2
      have hiN : i < N := by simpa [bitsN] using h1
      rw [hL, List.getElem_set]
      by_cases hi : k / 8 = i
      · subst hi
        rw [if_pos rfl, hget, hnew]
        have e1 : ((2 : Int) ^ (k % 8) % 256) = ((2 ^ (k % 8) : Nat) : Int) := by
          rw [Int.emod_eq_of_lt (Int.le_of_lt (Int.pow_pos (by decide))) (by
            have : ((2 ^ (k % 8) : Nat) : Int) ≤ ((2 ^ 7 : Nat) : Int) := by exact_mod_cast hp
            rw [Int.natCast_pow] at this
            have e : ((2 ^ 7 : Nat) : Int) = 128 := by decide
            rw [e] at this
            exact Int.lt_of_le_of_lt this (by decide))]
          rw [Int.natCast_pow]
          rfl
        rw [e1, u8_xor_nat _ _ (by omega) (by omega)]
        congr 1
        have h4 := Nat.two_pow_add_eq_or_of_lt (i := k % 8) (b := bitsTo mk (k / 8) (k % 8)) hlt 1
        rw [Nat.mul_one] at h4
        rw [Nat.add_comm, h4]
        apply Nat.eq_of_testBit_eq
        intro j
        rw [Nat.testBit_xor, Nat.testBit_or, Nat.testBit_two_pow]
        by_cases hj : k % 8 = j
        · subst hj
          rw [Nat.testBit_lt_two_pow hlt]; simp
        · simp [hj]
      · rw [if_neg hi, hR, hone i hiN (by omega)]

theorem bitsN_all (mk : List Bool) : bitsN mk ((mk.length + 7) / 8) = bitsOf mk := rfl
theorem bitsN_zero (N : Nat) : bitsN [] N = List.replicate N 0 := by
  apply List.ext_getElem
  · simp [bitsN]
  · intro i h1 h2
    simp [bitsN, bitsTo]
theorem bitsN_length (mk : List Bool) (N : Nat) : (bitsN mk N).length = N := by simp [bitsN]

theorem markBytes_any (n : Nat) (w : World) (hn : n ≤ 140737488355000) : Calls Tryd.prog 63 #[.int .i64 (n : Int)] w fun e w' => e = .returned (.int .i64 (((n + 7) / 8 : Nat) : Int)) ∧ w' = w := by
  have hw : ((n : Int) + 7).tdiv 8 = (((n + 7) / 8 : Nat) : Int) := by
    rw [Int.tdiv_eq_ediv_of_nonneg (by omega)]; omega
  go_enter Tryd.func63, Tryd.ntmps63
  go_wp2
  go_ret
  exact ⟨by simp, rfl⟩

theorem made_row (w : World) (n : Nat) (hn : n ≤ 9223372036854775807) : Own (w.alloc (.cells (madeCells #[.int .u8 0] n) 5)) w.heap.size w.heap.size n n (List.replicate n 0) := by
  have hc : (madeCells #[.int .u8 0] n) = ((List.replicate n (0 : Int)).map (Value.int .u8)).toArray := by
    apply Array.ext'
    simp [madeCells]
    apply List.ext_getElem
    · simp
    · intro i h1 h2
      simp [Nat.mod_one]
  refine ⟨by simp, Or.inr ⟨w.heap.size, n, _, rfl, Nat.le_refl _, heap_alloc_new w _, Nat.le_refl _, by simp only [maxLen]; omega, by simp [madeCells], ?_⟩⟩
  rw [hc]
  simp

set_option maxHeartbeats 1000000 in
set_option maxRecDepth 100000 in
theorem bits_any (a : Option Addr) (n cap : Nat) (mk : List Bool) (w : World) (hn : n ≤ 1000000) (h : ReadsB w a n mk) :
    Calls Tryd.prog 39 #[.slice a n cap] w fun e w' => ∃ g, e = .returned (.slice (some ⟨g, 0, none⟩) ((n + 7) / 8) ((n + 7) / 8)) ∧ Own w' w.heap.size g ((n + 7) / 8) ((n + 7) / 8) (bitsOf mk) ∧ Below w.heap.size w w' := by
  obtain ⟨i0, hi, hz0, hz1, hz2⟩ := info_parts info5
  have hlen := h.1
  obtain ⟨N, hN⟩ : ∃ N, (n + 7) / 8 = N := ⟨_, rfl⟩
  have hNb : N ≤ 1000000 := by omega
  have hmk : ∀ u : World, (Instr.makeSlice 22 (.int .i64 (N : Int)) (.int .i64 (N : Int))).run Tryd.prog u =
      .ok (.slice (some ⟨u.heap.size, 0, none⟩) N N) (u.alloc (.cells (madeCells #[.int .u8 0] N) 5)) := fun u => by
    have h := run_make (P := Tryd.prog) u 22 5 i0 (.int .u8 0) Tryd.underlying22 hi hz0 .i64 .i64 (N : Int) (N : Int) (by omega) (by omega) (by rw [hz2]; omega) (by omega)
    simpa [hz1, Value.cells] using h
  have hm0 := made_row w N (by omega)
  have HN : Hid ((n + 7) / 8 = N) := hN
  rw [hN]
  have hb0 := below_alloc w (.cells (madeCells #[.int .u8 0] N) 5)
  clear hN
  go_enter Tryd.func39, Tryd.ntmps39
  go_wp2_with (go_at_call 63; refine (markBytes_any n _ (by omega)).mono ?_; rintro e u0 ⟨rfl, hu0⟩; rw [hu0, HN.out])
  go_loopw [12] (fun i wr => ∃ k : Nat, k ≤ n ∧ i = .int .i64 k ∧ Own wr w.heap.size w.heap.size N N (bitsN (mk.take k) N) ∧ Below w.heap.size w wr)
    (fun i _ => n - (intOf i).toNat)
  case atStart => exact ⟨0, Nat.zero_le _, rfl, by rw [List.take_zero, bitsN_zero]; exact hm0, hb0⟩
  case round =>
    obtain ⟨k, hk, rfl, hown, hbel⟩ := hrel
    by_cases hlt : k < n
    · obtain ⟨b, off, rfl, hb, hcell⟩ := h.pos (by omega)
      have hk8 : k / 8 < N := by have := HN.out; omega
      have hst := bitsN_step mk N k (by omega) hk8
      have hcx : wr.cell? ⟨b, off + k, none⟩ = some (.bool (mk.getD k false)) := by
        rw [hbel.cell (show (⟨b, off + k, none⟩ : Addr).block < w.heap.size from hb)]; exact hcell k hlt
      have i1 : (k : Int) < (n : Int) := by omega
      cases hm : mk.getD k false with
      | true =>
        rw [hm] at hcx hst
        rw [if_pos rfl] at hst
        have HS : Hid _ := hst
        clear hst hcell hm
        go_wp2_with (go_at_call 64; refine (flip_ok w.heap.size w.heap.size N N N k (bitsN (mk.take k) N) _ (by omega) (by omega) (Nat.le_refl _) hown).mono ?_; rintro e u1 ⟨rfl, own1, grow1⟩; have HO1 : Hid _ := own1; have HG1 : Hid _ := grow1; clear own1 grow1)
        go_roundw
        case rel => exact ⟨k + 1, by omega, by go_num, by rw [HS.out]; exact HO1.out, hbel.grown HG1.out hbel.size (fun j hj => by cases hj; exact Nat.le_refl _)⟩
        case measure => simp [intOf]; omega
      | false =>
        rw [hm] at hcx hst
        rw [if_neg (by simp)] at hst
        have HS : Hid _ := hst
        clear hst hcell hm
        go_wp2
        go_roundw
        case rel => exact ⟨k + 1, by omega, by go_num, by rw [HS.out]; exact hown, hbel⟩
        case measure => simp [intOf]; omega
    · have hkn : k = n := by omega
      subst hkn
      have HO : Hid (Own wr w.heap.size w.heap.size N N (bitsOf mk)) := by
        have := hown
        rw [List.take_of_length_le (by omega), ← HN.out, ← hlen, bitsN_all, hlen, HN.out] at this
        exact this
      clear hown
      go_wp2
      go_ret
      exact ⟨w.heap.size, rfl, HO.out, hbel⟩

end Go.Proofs.YteefekhlbillfaaDoor
