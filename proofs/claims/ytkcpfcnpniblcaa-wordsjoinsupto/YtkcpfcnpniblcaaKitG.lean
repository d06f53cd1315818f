/-
  SEAT Ytkcpfcnpniblcaa: Mod; what is put is got.
-/
import Derived.Test.YtkcpfcnpniblcaaKitF
import Derived.Test.YtkcpfcnpniblcaaKitE
import Derived.Lib.Strings
namespace Go.Proofs.Ytkcpfcnpniblcaa
open Go.RowKit
set_option linter.unusedVariables false

theorem mod_any (x n : Int) (w : World) (h0 : 0 < n) (h1 : n ≤ 9223372036854775807) (h2 : -9223372036854775808 ≤ x) (h3 : x ≤ 9223372036854775807) :
    Calls Try.prog 15 #[.int .i64 x, .int .i64 n] w fun e w' => e = .returned (.int .i64 (x % n)) ∧ w = w' := by
  have hn : (n == 0) = false := by simp; omega
  by_cases hx : 0 ≤ x
  · have e2 := Int.emod_nonneg x (show n ≠ 0 by omega)
    go_enter Try.func15, Try.ntmps15
    go_wp2
    go_ret
    exact ⟨rfl, rfl⟩
  · have e1 := Int.tmod_eq_emod (a := x) (b := n)
    have e2 := Int.emod_nonneg x (show n ≠ 0 by omega)
    have e3 := Int.emod_lt_of_pos x h0
    have e4 : x.tmod n = x % n ∧ x % n = 0 ∨ x.tmod n = x % n - n ∧ 0 < x % n := by
      by_cases hd : n ∣ x
      · rw [e1, if_pos (Or.inr hd)]
        exact Or.inl ⟨by simp, Int.emod_eq_zero_of_dvd hd⟩
      · rw [e1, if_neg (by simp [hx, hd])]
        exact Or.inr ⟨by omega, by have : x % n ≠ 0 := fun h => hd (Int.dvd_of_emod_eq_zero h); omega⟩
    clear e1
    have hlo : -n < x.tmod n := by omega
    by_cases h : x.tmod n < 0
    · have hr2 : Hid (x.tmod n + n = x % n) := by
        unfold Hid
        omega
      clear e2 e3 e4
      go_enter Try.func15, Try.ntmps15
      go_wp2
      go_ret
      exact ⟨ret_int hr2.out, rfl⟩
    · have hr2 : Hid (x.tmod n = x % n) := by
        unfold Hid
        omega
      clear e2 e3 e4
      go_enter Try.func15, Try.ntmps15
      go_wp2
      go_ret
      exact ⟨ret_int hr2.out, rfl⟩

theorem getL_congr {xs ys : List Int} {t : Nat} : ∀ n, (∀ i, i < n → xs.getD (t + i) 0 = ys.getD (t + i) 0) → getL xs t n = getL ys t n
  | 0, _ => rfl
  | n + 1, h => by rw [getL, getL, getL_congr n (fun i hi => h i (by omega)), h n (by omega)]

theorem getD_set (xs : List Int) (i j : Nat) (z : Int) (hi : i < xs.length) : (xs.set i z).getD j 0 = if i = j then z else xs.getD j 0 := by
  rw [List.getD_eq_getElem?_getD, List.getElem?_set]
  by_cases h : i = j
  · subst h; simp [hi]
  · simp [h, List.getD_eq_getElem?_getD]

theorem putL_getD (xs : List Int) (t : Nat) (v : Int) (n : Nat) (h : t + n ≤ xs.length) (j : Nat) : (putL xs t v n).getD j 0 = if t ≤ j ∧ j < t + n then v / 256 ^ (j - t) % 256 else xs.getD j 0 := by
  induction n with
  | zero => rw [putL, if_neg (by omega)]
  | succ n ih =>
    rw [putL, getD_set _ _ _ _ (by rw [putL_length]; omega), ih (by omega)]
    by_cases h1 : t + n = j
    · subst h1; rw [if_pos rfl, if_pos (by omega)]; simp
    · rw [if_neg h1]
      by_cases h2 : t ≤ j ∧ j < t + n
      · rw [if_pos h2, if_pos (by omega)]
      · rw [if_neg h2, if_neg (by omega)]

theorem emod_mul' (v p : Int) (hv : 0 ≤ v) (hp : 0 < p) : v % p + v / p % 256 * p = v % (p * 256) := by
  obtain ⟨v, rfl⟩ := Int.eq_ofNat_of_zero_le hv
  obtain ⟨p, rfl⟩ := Int.eq_ofNat_of_zero_le (Int.le_of_lt hp)
  have h := Nat.mod_mul (a := p) (b := 256) (x := v)
  rw [Nat.mul_comm p (v / p % 256)] at h
  have h2 : ((v % (p * 256) : Nat) : Int) = ((v % p + v / p % 256 * p : Nat) : Int) := by rw [h]
  simpa using h2.symm

theorem get_put (xs : List Int) (t : Nat) (v : Int) (m : Nat) (h : t + m ≤ xs.length) (hv : 0 ≤ v) : ∀ n, n ≤ m → getL (putL xs t v m) t n = v % 256 ^ n
  | 0, _ => by simp [getL]
  | n + 1, hn => by
    rw [getL, get_put xs t v m h hv n (by omega), putL_getD xs t v m h, if_pos (by omega), Nat.add_sub_cancel_left, Int.pow_succ, emod_mul' v _ hv (pow256_pos n)]

theorem bytes_ext {a b : ByteArray} (h : a.data.toList = b.data.toList) : a = b := by
  obtain ⟨⟨a⟩⟩ := a
  obtain ⟨⟨b⟩⟩ := b
  simpa using h

theorem str_take (xs : List Int) (t : Nat) : (strOfNums xs).extract 0 t = strOfNums (xs.take t) := by
  refine bytes_ext ?_
  rw [Lib.extract_data, strOfNums_data, strOfNums_data, List.drop_zero, Nat.sub_zero, List.map_take]

theorem str_drop (xs : List Int) (t : Nat) : (strOfNums xs).extract t (strOfNums xs).size = strOfNums (xs.drop t) := by
  refine bytes_ext ?_
  rw [Lib.extract_data, strOfNums_data, strOfNums_data, strOfNums_size, List.map_drop, List.take_of_length_le (by simp)]

theorem no_quiet (n : Int) (w : World) : Calls Try.prog 14 #[.int .i64 n] w fun e w' => e = .returned (.int .i64 n) ∧ w' = w :=
  (no_any n w).mono fun _ _ ⟨h1, h2⟩ => ⟨h1, h2.symm⟩

theorem Reads.cut {w : World} {g len : Nat} {zs : List Int} (h : Reads w (some ⟨g, 0, none⟩) len zs) (j c : Nat) (hj : j ≤ len) : Reads w (some ⟨g, j, none⟩) (len - j) (zs.drop j) := by
  obtain ⟨h1, h2, _, h4⟩ := h
  refine ⟨by simp; omega, fun x hx => h2 x (List.mem_of_mem_drop hx), (fun h => by cases h), fun x hx i hi => ?_⟩
  cases hx
  have := h4 _ rfl (j + i) (by omega)
  rw [plain_add] at this ⊢
  rw [Nat.zero_add] at this
  rw [this]
  simp [List.getD_eq_getElem?_getD]

end Go.Proofs.Ytkcpfcnpniblcaa
