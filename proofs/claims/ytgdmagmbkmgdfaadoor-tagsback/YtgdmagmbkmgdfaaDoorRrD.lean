/-
  SEAT YtgdmagmbkmgdfaaDoor: the reference's Read.
-/
import Derived.Test.YtgdmagmbkmgdfaaDoorRrC
namespace Go.Proofs.YtgdmagmbkmgdfaaDoor
open Go.RowKit
set_option linter.unusedVariables false

theorem rread_bad (a : Option Addr) (l cap : Nat) (w : World) (hl : l ≤ 140737488355000) (h : l % 2 = 1 ∨ l < 2 ∨ 8192 < l) :
    Calls Tryd.prog 30 #[.slice a l cap] w fun e w' => e = .returned (.tuple #[.slice none 0 0, .int .i64 0, .int .i64 31]) ∧ w = w' := by
  by_cases h2 : l < 2
  · go_enter Tryd.func30, Tryd.ntmps30
    go_wp2
    go_ret3
    exact ⟨rfl, rfl⟩
  · by_cases h1 : l % 2 = 1
    · have e1 : (l : Int) % 2 = 1 := by omega
      go_enter Tryd.func30, Tryd.ntmps30
      go_wp2
      go_ret3
      exact ⟨rfl, rfl⟩
    · have e1 : (l : Int) % 2 = 0 := by omega
      have h3 : 8192 < l := by omega
      go_enter Tryd.func30, Tryd.ntmps30
      go_wp2
      go_ret3
      exact ⟨rfl, rfl⟩

set_option maxHeartbeats 1000000 in
set_option maxRecDepth 100000 in
theorem rread_ok (a : Option Addr) (l cap m : Nat) (xs : List Nat) (w : World) (hl : l = 2 * m) (hm : 1 ≤ m ∧ m ≤ 4096) (hx : ∀ x ∈ xs, x < 256) (h : Reads w a l (cst xs)) :
    Calls Tryd.prog 30 #[.slice a l cap] w fun e w' => readR w m (readN xs) e w' ∧ Below w.heap.size w w' := by
  have hlen : xs.length = 2 * m := by have := h.1; simp [cst] at this; omega
  have e1 : (l : Int) % 2 = 0 := by omega
  have e2 : (2 : Int) ≤ (l : Int) := by omega
  have e3 : (l : Int) ≤ 8192 := by omega
  have hmi : (1 : Int) ≤ (m : Int) := by omega
  have h4 : 4 * xs.length = 4 * l := by omega
  have hbr := fun _ : Unit => broken_any a l cap xs w (by omega) hx h
  have main : ∀ (n : Nat) (q : Int) (R : List Nat), n ≤ 1 → (brkL xs (4 * l)).length = n → lastB (brkL xs (4 * l)) = q → stM xs m (4 * l) = R → R.length = m → (∀ x ∈ R, x < 256) → readN xs = sealN R q →
      Calls Tryd.prog 30 #[.slice a l cap] w fun e w' => readR w m (readN xs) e w' ∧ Below w.heap.size w w' := by
    intro n q R hn1 hn hq hR hRl hR2 hrd
    rw [hn, hq] at hbr
    have hme := fun k => rmend_any a l cap m xs (w.drewN k) hl hm hx (h.drewN k) (by omega)
    rw [hR] at hme
    rw [hrd]
    unfold sealN
    have hcol := col_cst R hR2
    obtain ⟨s, hs⟩ : ∃ s, colN R = s := ⟨_, rfl⟩
    rw [hs] at hcol ⊢
    have HCOL : Hid (colF (cst R) = (s : Int)) := hcol
    have HRL : Hid (R.length = m) := hRl
    have HR2 : Hid (∀ x ∈ R, x < 256) := hR2
    have HBR : Hid _ := hbr
    have HME : Hid _ := hme
    have n1 : (n : Int) ≤ 1 := by omega
    have n0 : (0 : Int) ≤ (n : Int) := by omega
    clear hl h hn hq hR hRl hR2 hrd hcol hs hbr hme hlen h4 hx
    by_cases hz : s = 0
    · subst hz
      rw [if_pos rfl]
      go_enter Tryd.func30, Tryd.ntmps30
      go_wp2_with (first
        | (go_at_call 44; refine (HBR.out ()).mono ?_; rintro e u ⟨rfl, k, rfl⟩)
        | (go_at_call 45; refine (HME.out _).mono ?_; rintro e u ⟨rfl, own, bel⟩)
        | (go_at_call 38; refine (rcolumn_any _ _ _ (cst R) _ ?_ ?_).mono ?_; omega; exact own.all (cst_range _ HR2.out); rintro e u2 ⟨rfl, rfl⟩; rw [HCOL.out]))
      go_ret3
      exact ⟨⟨rfl, _, by rw [HRL.out], HR2.out, own⟩, (below_drewN (Below.refl _ _) _).trans bel⟩
    · rw [if_neg hz]
      have hz2 : ((s : Int) == 0) = false := by simpa using hz
      go_enter Tryd.func30, Tryd.ntmps30
      go_wp2_with (first
        | (go_at_call 44; refine (HBR.out ()).mono ?_; rintro e u ⟨rfl, k, rfl⟩)
        | (go_at_call 45; refine (HME.out _).mono ?_; rintro e u ⟨rfl, own, bel⟩)
        | (go_at_call 38; refine (rcolumn_any _ _ _ (cst R) _ ?_ ?_).mono ?_; omega; exact own.all (cst_range _ HR2.out); rintro e u2 ⟨rfl, rfl⟩; rw [HCOL.out]))
      go_ret3
      exact ⟨rfl, (below_drewN (Below.refl _ _) _).trans bel⟩
  match hL : brkL xs (4 * l) with
  | [] =>
    have hst : stM xs m (4 * l) = rowsOf xs := by unfold stM; rw [hL]; exact low_none xs m hlen hx (by rw [h4]; exact hL)
    exact main 0 (-1) (rowsOf xs) (by omega) (by rw [hL]; rfl) (by rw [hL]; rfl) hst (rowsOf_length xs m hlen) (rows_lt xs m hlen) (by unfold readN; rw [h4, hL])
  | [q] =>
    have hst : stM xs m (4 * l) = mendN (rowsOf xs) q := by unfold stM; rw [hL]; exact flip_low xs m q hlen hx (by rw [h4]; exact hL)
    exact main 1 (q : Int) (mendN (rowsOf xs) q) (by omega) (by rw [hL]; rfl) (by rw [hL]; rfl) hst ((mend_rows_len _ _).trans (rowsOf_length xs m hlen)) (mend_rows_lt _ _ (rows_lt xs m hlen)) (by unfold readN; rw [h4, hL])
  | x :: y :: r =>
    have hrd : readN xs = none := by unfold readN; rw [h4, hL]
    rw [hrd]
    rw [hL] at hbr
    obtain ⟨n, hn⟩ : ∃ n, n = (x :: y :: r).length := ⟨_, rfl⟩
    obtain ⟨q, hq⟩ : ∃ q, q = lastB (x :: y :: r) := ⟨_, rfl⟩
    rw [← hn, ← hq] at hbr
    have n2 : (1 : Int) < (n : Int) := by rw [hn]; simp; omega
    have HBR : Hid _ := hbr
    clear hl h hL hrd hn hq main hbr hx hlen h4
    go_enter Tryd.func30, Tryd.ntmps30
    go_wp2_with (first | (go_at_call 44; refine (HBR.out ()).mono ?_; rintro e u ⟨rfl, k, rfl⟩))
    go_ret3
    exact ⟨rfl, below_drewN (Below.refl _ _) _⟩
end Go.Proofs.YtgdmagmbkmgdfaaDoor
