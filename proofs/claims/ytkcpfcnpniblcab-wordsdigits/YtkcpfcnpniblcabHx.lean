/-
  SEAT Ytkcpfcnpniblcab: digits: worth, digit, Hex.
-/
import Derived.Test.YtkcpfcnpniblcabFl
namespace Go.Proofs.Ytkcpfcnpniblcab
open Go.RowKit
set_option linter.unusedVariables false

/-- The digit of a half. -/
def hexD (n : Int) : Int := if n < 10 then 48 + n else 87 + n
theorem hexD_range {n : Int} (h0 : 0 ≤ n) (h1 : n < 16) : 0 ≤ hexD n ∧ hexD n ≤ 255 := by unfold hexD; split <;> omega
def hexL : List Int → List Int
  | [] => []
  | z :: zs => hexD (z / 16) :: hexD (z % 16) :: hexL zs
theorem hexL_length (zs : List Int) : (hexL zs).length = 2 * zs.length := by
  induction zs with
  | nil => rfl
  | cons z zs ih => simp [hexL, ih]; omega
theorem hexL_append (a b : List Int) : hexL (a ++ b) = hexL a ++ hexL b := by
  induction a with
  | nil => rfl
  | cons z zs ih => simp [hexL, ih]
theorem hexL_range {zs : List Int} (h : ∀ x ∈ zs, 0 ≤ x ∧ x ≤ 255) : ∀ x ∈ hexL zs, 0 ≤ x ∧ x ≤ 255 := by
  induction zs with
  | nil => intro x hx; simp [hexL] at hx
  | cons z zs ih =>
    intro x hx
    have hz := h z (by simp)
    simp only [hexL, List.mem_cons] at hx
    rcases hx with rfl | rfl | hx
    · exact hexD_range (by omega) (by omega)
    · exact hexD_range (by omega) (by omega)
    · exact ih (fun y hy => h y (by simp [hy])) x hx
theorem hexL_take (zs : List Int) (k : Nat) (h : k < zs.length) : hexL (zs.take (k + 1)) = hexL (zs.take k) ++ [hexD (zs.getD k 0 / 16), hexD (zs.getD k 0 % 16)] := by
  rw [List.take_succ_eq_append_getElem h, hexL_append]
  simp [hexL, List.getD_eq_getElem?_getD, List.getElem?_eq_getElem h]

def S16 : ByteArray := ⟨#[48, 49, 50, 51, 52, 53, 54, 55, 56, 57, 97, 98, 99, 100, 101, 102]⟩
theorem s16_at (n : Int) (h0 : 0 ≤ n) (h1 : n < 16) : ∃ b : UInt8, S16[n.toNat]? = some b ∧ ((b.toNat : Nat) : Int) = hexD n := by
  obtain ⟨m, rfl⟩ := Int.eq_ofNat_of_zero_le h0
  have hm : m < 16 := by omega
  have key : ∀ m : Fin 16, ∃ b : UInt8, S16[m.val]? = some b ∧ ((b.toNat : Nat) : Int) = hexD m.val := by decide
  exact key ⟨m, hm⟩
theorem ix16 (n : Int) (h0 : 0 ≤ n) (h1 : n < 16) (u : World) : (Instr.index 9 (.string ⟨#[48, 49, 50, 51, 52, 53, 54, 55, 56, 57, 97, 98, 99, 100, 101, 102]⟩) (.int .u8 n)).run Try.prog u = .ok (.int .u8 (hexD n)) u := by
  obtain ⟨b, hb, he⟩ := s16_at n h0 h1
  have hb' : (⟨#[48, 49, 50, 51, 52, 53, 54, 55, 56, 57, 97, 98, 99, 100, 101, 102]⟩ : ByteArray)[n.toNat]? = some b := hb
  simp [Instr.index, run_underlying Try.underlying9, asIntOf, go_sem, h0, hb', he]

/-- The worth of a digit; -1: it is none. -/
def dg (c : Int) : Int := if 48 ≤ c ∧ c ≤ 57 then c - 48 else if 97 ≤ c ∧ c ≤ 102 then c - 87 else -1
theorem dg_range (c : Int) : -1 ≤ dg c ∧ dg c ≤ 15 := by unfold dg; split <;> (try split) <;> omega

theorem digit_any (c : Int) (h0 : 0 ≤ c) (h1 : c ≤ 255) (w : World) : Calls Try.prog 29 #[.int .u8 c] w fun e w' => e = .returned (.int .i64 (dg c)) ∧ w = w' := by
  by_cases h : 48 ≤ c ∧ c ≤ 57
  · have e : dg c = c - 48 := by unfold dg; rw [if_pos h]
    rw [e]
    obtain ⟨h2, h3⟩ := h
    clear e
    go_enter Try.func29, Try.ntmps29
    go_wp2
    go_ret
    exact ⟨ret_int (by first | rfl | omega), rfl⟩
  · by_cases h' : 97 ≤ c ∧ c ≤ 102
    · have e : dg c = c - 87 := by unfold dg; rw [if_neg h, if_pos h']
      rw [e]
      obtain ⟨h2, h3⟩ := h'
      have h4 : ¬ c ≤ 57 := by omega
      have h5 : 48 ≤ c := by omega
      clear e h
      go_enter Try.func29, Try.ntmps29
      go_wp2
      go_ret
      exact ⟨ret_int (by first | rfl | omega), rfl⟩
    · have e : dg c = -1 := by unfold dg; rw [if_neg h, if_neg h']
      rw [e]
      clear e
      have d1 : decide (48 ≤ c) = true ∨ decide (48 ≤ c) = false := by cases decide (48 ≤ c) <;> simp
      by_cases h4 : 48 ≤ c
      · have h5 : ¬ c ≤ 57 := by omega
        by_cases h6 : 97 ≤ c
        · have h7 : ¬ c ≤ 102 := by omega
          clear h h' d1
          go_enter Try.func29, Try.ntmps29
          go_wp2
          go_ret
          exact ⟨rfl, rfl⟩
        · clear h h' d1
          go_enter Try.func29, Try.ntmps29
          go_wp2
          go_ret
          exact ⟨rfl, rfl⟩
      · have h6 : ¬ 97 ≤ c := by omega
        clear h h' d1
        go_enter Try.func29, Try.ntmps29
        go_wp2
        go_ret
        exact ⟨rfl, rfl⟩

theorem worth_yes (c : Int) (h0 : 0 ≤ c) (h1 : c ≤ 255) (w : World) (hd : 0 ≤ dg c) : Calls Try.prog 30 #[.int .u8 c] w fun e w' => e = .returned (.tuple #[.int .u8 (dg c), .bool true]) ∧ w = w' := by
  by_cases h : 48 ≤ c ∧ c ≤ 57
  · have e : dg c = c - 48 := by unfold dg; rw [if_pos h]
    rw [e]
    obtain ⟨h2, h3⟩ := h
    clear e hd
    go_enter Try.func30, Try.ntmps30
    go_wp2
    go_ret2
    exact ⟨rfl, rfl⟩
  · by_cases h' : 97 ≤ c ∧ c ≤ 102
    · have e : dg c = c - 87 := by unfold dg; rw [if_neg h, if_pos h']
      rw [e]
      obtain ⟨h2, h3⟩ := h'
      have h4 : ¬ c ≤ 57 := by omega
      have h5 : 48 ≤ c := by omega
      have e2 : c - 87 = c - 97 + 10 := by omega
      rw [e2]
      clear e h hd e2
      go_enter Try.func30, Try.ntmps30
      go_wp2
      go_ret2
      exact ⟨rfl, rfl⟩
    · have e : dg c = -1 := by unfold dg; rw [if_neg h, if_neg h']
      omega

theorem worth_no (c : Int) (h0 : 0 ≤ c) (h1 : c ≤ 255) (w : World) (hd : dg c < 0) : Calls Try.prog 30 #[.int .u8 c] w fun e w' => e = .returned (.tuple #[.int .u8 0, .bool false]) ∧ w = w' := by
  have h : ¬ (48 ≤ c ∧ c ≤ 57) := fun h => by unfold dg at hd; rw [if_pos h] at hd; omega
  have h' : ¬ (97 ≤ c ∧ c ≤ 102) := fun h' => by unfold dg at hd; rw [if_neg h, if_pos h'] at hd; omega
  clear hd
  by_cases h4 : 48 ≤ c
  · have h5 : ¬ c ≤ 57 := by omega
    by_cases h6 : 97 ≤ c
    · have h7 : ¬ c ≤ 102 := by omega
      clear h h'
      go_enter Try.func30, Try.ntmps30
      go_wp2
      go_ret2
      exact ⟨rfl, rfl⟩
    · clear h h'
      go_enter Try.func30, Try.ntmps30
      go_wp2
      go_ret2
      exact ⟨rfl, rfl⟩
  · have h6 : ¬ 97 ≤ c := by omega
    clear h h'
    go_enter Try.func30, Try.ntmps30
    go_wp2
    go_ret2
    exact ⟨rfl, rfl⟩
end Go.Proofs.Ytkcpfcnpniblcab
