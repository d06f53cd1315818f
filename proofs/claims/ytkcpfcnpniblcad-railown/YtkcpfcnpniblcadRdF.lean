/-
  SEAT Ytkcpfcnpniblcad: rest, turn.
-/
import Derived.Test.YtkcpfcnpniblcadRdC
import Derived.Test.YtkcpfcnpniblcadRdE
namespace Go.Proofs.Ytkcpfcnpniblcad
open Go.RowKit
set_option linter.unusedVariables false

theorem rest_any (a Ni : Int) (N : Nat) (hNi : Ni = (N : Int)) (hN : 0 < N) (hN2 : N ≤ 100000) (ha : -9223372036854775808 ≤ a ∧ a ≤ 9223372036854775807) : ∃ r : Nat, r < N ∧ ∀ w, Calls Try.prog 19 #[.int .i64 a, .int .i64 Ni] w fun e w' => e = .returned (.int .i64 (r : Int)) ∧ w = w' := by
  subst hNi
  have h1 : a.tmod (N : Int) < N := Int.tmod_lt_of_pos a (by omega)
  have h2 : -(N : Int) < a.tmod (N : Int) := Int.lt_tmod_of_pos a (by omega)
  obtain ⟨t, ht⟩ : ∃ t, a.tmod (N : Int) = t := ⟨_, rfl⟩
  rw [ht] at h1 h2
  have hN0 : ((N : Int) == 0) = false := by simp; omega
  have hNm : ((N : Int) == -1) = false := by simp
  by_cases h : t < 0
  · obtain ⟨r, hr⟩ := Int.eq_ofNat_of_zero_le (show 0 ≤ t + N by omega)
    refine ⟨r, by omega, fun w => ?_⟩
    go_enter Try.func19, Try.ntmps19
    go_wp2
    go_ret
    exact ⟨ret_int (by omega), rfl⟩
  · obtain ⟨r, hr⟩ := Int.eq_ofNat_of_zero_le (show 0 ≤ t by omega)
    refine ⟨r, by omega, fun w => ?_⟩
    go_enter Try.func19, Try.ntmps19
    go_wp2
    go_ret
    exact ⟨ret_int (by omega), rfl⟩

theorem turn_eq (x C : Nat) (hx : x < 256) (hC : C < 8) : bits .xor .u8 (x : Int) (2 ^ C % 256) = ((x ^^^ 2 ^ C : Nat) : Int) := by
  have h2 : 2 ^ C ≤ 2 ^ 7 := Nat.pow_le_pow_right (by omega) (by omega)
  have e : (2 : Int) ^ C % 256 = ((2 ^ C : Nat) : Int) := by
    obtain ⟨t, ht⟩ : ∃ t, t = 2 ^ C := ⟨_, rfl⟩
    have : ((2 : Int) ^ C) = ((2 ^ C : Nat) : Int) := by simp
    rw [this, ← ht]
    rw [← ht] at h2
    omega
  rw [e, u8_xor_nat x (2 ^ C) hx (by omega)]

set_option maxHeartbeats 1000000 in
theorem turn_any (B g n c i : Nat) (xs : List Nat) (w : World) (hn : n ≤ 8192) (hi : i < 8 * n) (hx : ∀ x ∈ xs, x < 256) (own : Own w B g n c (cst xs)) :
    Calls Try.prog 20 #[.slice (some ⟨g, 0, none⟩) n c, .int .i64 (i : Int)] w fun e w' => e = .returned (.tuple #[]) ∧ Own w' B g n c (cst (turnN xs i)) ∧ w.grownBy w' (some g) := by
  obtain ⟨R, hR⟩ : ∃ R, R = i / 8 := ⟨_, rfl⟩
  obtain ⟨C, hC⟩ : ∃ C, C = i % 8 := ⟨_, rfl⟩
  have hRn : R < n := by omega
  have hC8 : C < 8 := by omega
  have hRi : (i : Int) / 8 = (R : Int) := by omega
  have hCi : (i : Int) % 8 = (C : Int) := by omega
  have rn : (R : Int) < (n : Int) := by omega
  have hlen : xs.length = n := by have := own.len; simpa [cst] using this
  obtain ⟨o, ho⟩ : ∃ o, o = xs.getD R 0 := ⟨_, rfl⟩
  have ho256 : o < 256 := by
    rw [ho, List.getD_eq_getElem?_getD, List.getElem?_eq_getElem (by omega)]
    exact hx _ (List.getElem_mem _)
  have hoc := own.cell R hRn
  rw [cst_getD, ← ho] at hoc
  have hfz : w.frozen? ⟨g, R, none⟩ = false := World.ownsRow.frozenAt own R
  have HOWN : Hid (Own w B g n c (cst xs)) := own
  have HT : Hid (turnN xs i = xs.set R (o ^^^ 2 ^ C)) := by unfold Hid turnN; rw [← hR, ← hC, ← ho]
  clear hR hC ho own
  go_enter Try.func20, Try.ntmps20
  go_wp2
  have own := HOWN.out
  have hset := own.set R (bits .xor .u8 (o : Int) (2 ^ C % 256))
  refine bodyPost_end (v := .tuple #[]) (by simp [results, Try.results20, go_sem]) rfl ⟨rfl, ?_, hset.2⟩
  have h1 := hset.1
  rw [turn_eq o C ho256 hC8, cst_set, ← HT.out] at h1
  rw [turn_eq o C ho256 hC8]
  exact h1

theorem cst_of (zs : List Int) (h : ∀ x ∈ zs, 0 ≤ x ∧ x ≤ 255) : cst (zs.map Int.toNat) = zs ∧ ∀ x ∈ zs.map Int.toNat, x < 256 := by
  constructor
  · unfold cst
    rw [List.map_map]
    conv => rhs; rw [← List.map_id zs]
    apply List.map_congr_left
    intro x hx
    have := h x hx
    simp
    omega
  · intro x hx
    obtain ⟨z, hz, rfl⟩ := List.mem_map.1 hx
    have := h z hz
    omega

theorem lay_cst (ys : List Nat) : layL (cst ys) = cst (layLN ys) := by
  induction ys with
  | nil => rfl
  | cons y r ih =>
    have e1 : layL (cst (y :: r)) = layB (y : Int) ++ layL (cst r) := rfl
    have e2 : cst (layLN (y :: r)) = [((layN y : Nat) : Int), ((layN (y / 16) : Nat) : Int)] ++ cst (layLN r) := rfl
    rw [e1, e2, ih]
    congr 1

theorem layLN_lt (ys : List Nat) : ∀ x ∈ layLN ys, x < 256 := by
  induction ys with
  | nil => intro x hx; cases hx
  | cons y r ih =>
    intro x hx
    rw [layLN_cons] at hx
    rcases List.mem_cons.1 hx with rfl | hx
    · exact layN_lt _
    · rcases List.mem_cons.1 hx with rfl | hx
      · exact layN_lt _
      · exact ih x hx

theorem turnN_lt (xs : List Nat) (i : Nat) (h : ∀ x ∈ xs, x < 256) : ∀ x ∈ turnN xs i, x < 256 := by
  intro x hx
  rcases List.mem_or_eq_of_mem_set hx with h1 | h1
  · exact h x h1
  · subst h1
    have ho : xs.getD (i / 8) 0 < 2 ^ 8 := by
      rcases Nat.lt_or_ge (i / 8) xs.length with h2 | h2
      · rw [List.getD_eq_getElem?_getD, List.getElem?_eq_getElem h2]; exact h _ (List.getElem_mem _)
      · rw [List.getD_eq_getElem?_getD, List.getElem?_eq_none h2]; simp
    exact Nat.xor_lt_two_pow ho (Nat.pow_lt_pow_right (by omega) (by omega))
theorem turnN_length (xs : List Nat) (i : Nat) : (turnN xs i).length = xs.length := by simp [turnN]

/-- What a Read that is OK leaves can be read. -/
theorem read_got {w w' : World} {m : Nat} {ns : List Nat} {n : Int} {e : Ending} (h : readR w m (some (ns, n)) e w') : e = .returned (.tuple #[.slice (some ⟨w.heap.size, 0, none⟩) (m - 1) m, .int .i64 n, .int .i64 0]) ∧ Reads w' (some ⟨w.heap.size, 0, none⟩) (m - 1) (cst ns) := by
  obtain ⟨h1, rows, ht, hr, own⟩ := h
  refine ⟨h1, ?_⟩
  have := own.reads (cst_range rows hr) (m - 1) (by omega)
  have e : (cst rows).take (m - 1) = cst ns := by rw [← ht]; simp [cst, List.map_take]
  rwa [e] at this
end Go.Proofs.Ytkcpfcnpniblcad
