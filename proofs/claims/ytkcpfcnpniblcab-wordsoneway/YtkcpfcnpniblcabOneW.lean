/-
  SEAT Ytkcpfcnpniblcab: one way, the plain facts.
-/
import Derived.Test.YtkcpfcnpniblcabFall
import Derived.Test.YtkcpfcnpniblcabOneD
namespace Go.Proofs.Ytkcpfcnpniblcab
open Go.RowKit
set_option linter.unusedVariables false

theorem max8 : IntKind.u8.max = ((255 : Nat) : Int) := by decide

theorem fb_nat (o x m : Nat) (ho : o < 256) (hx : x < 256) (hm : m < 256) : fb (o : Int) (x : Int) (m : Int) = ((o &&& (x ||| (255 ^^^ m)) : Nat) : Int) := by
  have h1 : 255 ^^^ m < 256 := Nat.xor_lt_two_pow (n := 8) (by omega) hm
  have h2 : x ||| (255 ^^^ m) < 256 := Nat.or_lt_two_pow (n := 8) hx h1
  unfold fb
  rw [max8, u8_xor_nat 255 m (by omega) hm, u8_or_nat x _ hx h1, u8_and_nat o _ ho h2]

theorem and_le_or (a b : Nat) : (a &&& b) &&& a = a &&& b := by
  rw [Nat.and_comm, ← Nat.and_assoc, Nat.and_self]

theorem nat_of {z : Int} (h : 0 ≤ z ∧ z ≤ 255) : ∃ n : Nat, z = n ∧ n < 256 := by
  obtain ⟨n, rfl⟩ := Int.eq_ofNat_of_zero_le h.1
  exact ⟨n, rfl, by omega⟩


theorem or255 : ∀ x : Nat, x < 256 → x ||| 255 = 255 := by decide +kernel
theorem and255 : ∀ x : Nat, x < 256 → x &&& 255 = x := by decide +kernel
theorem and255' : ∀ x : Nat, x < 256 → 255 &&& (x ||| 0) = x := by decide +kernel

theorem F1 {o x m : Int} (ho : 0 ≤ o ∧ o ≤ 255) (hx : 0 ≤ x ∧ x ≤ 255) (hm : 0 ≤ m ∧ m ≤ 255) : bits .andNot .u8 (fb o x m) o = 0 := by
  obtain ⟨o, rfl, ho'⟩ := nat_of ho
  replace ho := ho'
  obtain ⟨x, rfl, hx'⟩ := nat_of hx
  replace hx := hx'
  obtain ⟨m, rfl, hm'⟩ := nat_of hm
  replace hm := hm'
  have h1 : 255 ^^^ m < 256 := Nat.xor_lt_two_pow (n := 8) (by omega) hm
  have h2 : x ||| (255 ^^^ m) < 256 := Nat.or_lt_two_pow (n := 8) hx h1
  have h3 : o &&& (x ||| (255 ^^^ m)) < 256 := Nat.lt_of_le_of_lt Nat.and_le_left ho
  rw [fb_nat o x m ho hx hm, u8_andNot_nat _ o h3 ho, compl_and o ho _ h2]
  rfl
theorem F2 {o m : Int} (ho : 0 ≤ o ∧ o ≤ 255) (hm : 0 ≤ m ∧ m ≤ 255) : bits .andNot .u8 o (bits .or .u8 o m) = 0 := by
  obtain ⟨o, rfl, ho'⟩ := nat_of ho
  replace ho := ho'
  obtain ⟨m, rfl, hm'⟩ := nat_of hm
  replace hm := hm'
  rw [u8_or_nat o m ho hm, u8_andNot_nat o _ ho (Nat.or_lt_two_pow (n := 8) ho hm), or_compl o ho m hm]
  rfl
theorem F3 {x : Int} (hx : 0 ≤ x ∧ x ≤ 255) : fb 255 x 255 = x := by
  obtain ⟨x, rfl, hx'⟩ := nat_of hx
  replace hx := hx'
  have h := fb_nat 255 x 255 (by omega) hx (by omega)
  rw [Nat.xor_self, and255' x hx] at h
  exact h
theorem F4 {o x : Int} (ho : 0 ≤ o ∧ o ≤ 255) (hx : 0 ≤ x ∧ x ≤ 255) : fb o x 0 = o := by
  obtain ⟨o, rfl, ho'⟩ := nat_of ho
  replace ho := ho'
  obtain ⟨x, rfl, hx'⟩ := nat_of hx
  replace hx := hx'
  have h := fb_nat o x 0 ho hx (by omega)
  rw [Nat.xor_zero, or255 x hx, and255 o ho] at h
  exact h
theorem fb_range {o x m : Int} (ho : 0 ≤ o ∧ o ≤ 255) (hx : 0 ≤ x ∧ x ≤ 255) (hm : 0 ≤ m ∧ m ≤ 255) : 0 ≤ fb o x m ∧ fb o x m ≤ 255 := by
  obtain ⟨o, rfl, ho'⟩ := nat_of ho
  replace ho := ho'
  obtain ⟨x, rfl, hx'⟩ := nat_of hx
  replace hx := hx'
  obtain ⟨m, rfl, hm'⟩ := nat_of hm
  replace hm := hm'
  have h3 : o &&& (x ||| (255 ^^^ m)) < 256 := Nat.lt_of_le_of_lt Nat.and_le_left ho
  rw [fb_nat o x m ho hx hm]
  omega
theorem F6 {x m : Int} (hx : 0 ≤ x ∧ x ≤ 255) (hm : 0 ≤ m ∧ m ≤ 255) : zb (fb 255 x m) ≤ zb x ∧ (zb (fb 255 x m) = zb x → fb 255 x m = x) := by
  obtain ⟨x, rfl, hx'⟩ := nat_of hx
  replace hx := hx'
  obtain ⟨m, rfl, hm'⟩ := nat_of hm
  replace hm := hm'
  have h1 : 255 ^^^ m < 256 := Nat.xor_lt_two_pow (n := 8) (by omega) hm
  have h2 : x ||| (255 ^^^ m) < 256 := Nat.or_lt_two_pow (n := 8) hx h1
  have h := fb_nat 255 x m (by omega) hx hm
  rw [Nat.and_comm, and255 _ h2] at h
  have hz := zbits x hx _ h1
  have e : ((255 : Nat) : Int) = 255 := rfl
  rw [e] at h
  rw [h]
  have p1 := popN_le x 8
  have p2 := popN_le (x ||| (255 ^^^ m)) 8
  simp only [zb, Int.toNat_natCast]
  exact ⟨by omega, fun he => by rw [hz.2 (by omega)]⟩

theorem mk_nil (fill : Int) (i : Nat) : mk [] fill i = fill := by simp [mk]
theorem mk_more (ms : List Int) (fill : Int) (i : Nat) : mk (ms ++ [fill, fill]) fill i = mk ms fill i := by
  unfold mk
  by_cases h : i < ms.length
  · rw [if_pos (by simp; omega), if_pos h, List.getD_eq_getElem?_getD, List.getElem?_append_left h, List.getD_eq_getElem?_getD]
  · rw [if_neg h]
    by_cases h2 : i < (ms ++ [fill, fill]).length
    · rw [if_pos h2, List.getD_eq_getElem?_getD, List.getElem?_append_right (by omega)]
      simp at h2
      rcases (show i - ms.length = 0 ∨ i - ms.length = 1 by omega) with h3 | h3 <;> rw [h3] <;> rfl
    · rw [if_neg h2]

theorem take_snoc' (xs : List Int) (k : Nat) (h : k < xs.length) : xs.take (k + 1) = xs.take k ++ [xs.getD k 0] := by
  rw [List.take_succ_eq_append_getElem h]
  simp [List.getD_eq_getElem?_getD, List.getElem?_eq_getElem h]
theorem rep_getD (n k : Nat) (h : k < n) : (List.replicate n (255 : Int)).getD k 0 = 255 := by
  simp [List.getD_eq_getElem?_getD, h]

theorem L1 (n : Nat) (xs : List Int) (hl : xs.length = n) (hr : ∀ x ∈ xs, 0 ≤ x ∧ x ≤ 255) (k : Nat) (hk : k ≤ n) : fallL (List.replicate n 255) xs [] 255 k = xs.take k := by
  induction k with
  | zero => rfl
  | succ k ih => rw [fallL, ih (by omega), take_snoc' xs k (by omega), rep_getD n k (by omega), mk_nil, F3 (byteAt hr k)]
theorem L2 (zs xs : List Int) (hz : ∀ x ∈ zs, 0 ≤ x ∧ x ≤ 255) (hr : ∀ x ∈ xs, 0 ≤ x ∧ x ≤ 255) (k : Nat) (hk : k ≤ zs.length) : fallL zs xs [] 0 k = zs.take k := by
  induction k with
  | zero => rfl
  | succ k ih => rw [fallL, ih (by omega), take_snoc' zs k (by omega), mk_nil, F4 (byteAt hz k) (byteAt hr k)]
theorem L5 (zs xs ms : List Int) (fill : Int) (k : Nat) : fallL zs xs (ms ++ [fill, fill]) fill k = fallL zs xs ms fill k := by
  induction k with
  | zero => rfl
  | succ k ih => rw [fallL, fallL, ih, mk_more]
theorem L6 (n : Nat) (xs ms : List Int) (fill : Int) (hl : xs.length = n) (hr : ∀ x ∈ xs, 0 ≤ x ∧ x ≤ 255) (hm : ∀ x ∈ ms, 0 ≤ x ∧ x ≤ 255) (hf : 0 ≤ fill ∧ fill ≤ 255) (k : Nat) (hk : k ≤ n) :
    zsum (fallL (List.replicate n 255) xs ms fill k) ≤ zsum (xs.take k) ∧ (zsum (fallL (List.replicate n 255) xs ms fill k) = zsum (xs.take k) → fallL (List.replicate n 255) xs ms fill k = xs.take k) := by
  induction k with
  | zero => exact ⟨Nat.le_refl _, fun _ => rfl⟩
  | succ k ih =>
    have ih := ih (by omega)
    have h6 := F6 (byteAt hr k) (mk_range hm hf k)
    rw [fallL, take_snoc' xs k (by omega), rep_getD n k (by omega), zsum_append, zsum_append]
    simp only [zsum]
    refine ⟨by omega, fun he => ?_⟩
    rw [ih.2 (by omega), h6.2 (by omega)]
theorem L7 (zs : List Int) (hz : ∀ x ∈ zs, 0 ≤ x ∧ x ≤ 255) (k : Nat) (hk : k ≤ zs.length) : riseL zs [] 0 k = zs.take k ∧ riseL zs [] 255 k = List.replicate k 255 := by
  induction k with
  | zero => exact ⟨rfl, rfl⟩
  | succ k ih =>
    have ih := ih (by omega)
    have hb := byteAt hz k
    obtain ⟨o, ho, ho2⟩ := nat_of hb
    have e0 : bits .or .u8 (zs.getD k 0) 0 = zs.getD k 0 := by
      rw [ho]
      have h := u8_or_nat o 0 ho2 (by omega)
      rw [Nat.or_zero] at h
      exact h
    have e1 : bits .or .u8 (zs.getD k 0) 255 = 255 := by
      rw [ho]
      have h := u8_or_nat o 255 ho2 (by omega)
      rw [or255 o ho2] at h
      exact h
    rw [riseL, riseL, mk_nil, mk_nil, e0, e1, ih.1, ih.2, take_snoc' zs k (by omega), List.replicate_succ']
    exact ⟨rfl, rfl⟩

end Go.Proofs.Ytkcpfcnpniblcab
