/-
  SEAT YtnjcjaaciphcgaaDoor: the reference's reader: a number, a kind.
-/
import Derived.Test.YtnjcjaaciphcgaaDoorWb
namespace Go.Proofs.YtnjcjaaciphcgaaDoor
open Go.RowKit Go.Sort
set_option linter.unusedVariables false

/-- The number behind its sign. -/
def rnS (neg : Bool) (o : Option Nat) : Int := match o with
  | none => 0
  | some u => if neg = true ∧ u = 9223372036854775808 then -9223372036854775808 else if 9223372036854775807 < u then 0 else if neg = true then -(u : Int) else u
/-- The number that the reference reads. -/
def rn (l : List UInt8) : Int := match l with
  | [] => 0
  | c :: r => if c = 45 then rnS true (un r) else rnS false (un (c :: r))
theorem rnS_in (neg : Bool) (o : Option Nat) : In (rnS neg o) := by
  unfold rnS In
  split
  · omega
  · split
    · omega
    · split
      · omega
      · split <;> omega
theorem rn_in (l : List UInt8) : In (rn l) := by
  unfold rn
  split
  · exact ⟨by decide, by decide⟩
  · split <;> exact rnS_in _ _
theorem un_dec (u : Nat) (h : u < 18446744073709551616) : un (Lib.decDigits u) = some u := by
  unfold un
  rw [mag_dec u h]
theorem rn_itoa (n : Int) (h : In n) : rn (Lib.itoa n) = n := by
  obtain ⟨h0, h1⟩ := h
  unfold Lib.itoa
  split
  · rename_i hn
    unfold rn
    simp only [if_true]
    rw [un_dec _ (by omega)]
    unfold rnS
    simp only [true_and, if_true]
    split
    · omega
    · split <;> omega
  · rename_i hn
    have hne := dec_ne n.toNat
    have hch := dec_chars n.toNat
    have hm := un_dec n.toNat (by omega)
    cases hd : Lib.decDigits n.toNat with
    | nil => exact absurd hd hne
    | cons c r =>
      rw [hd] at hch hm
      have hc := hch c (by simp)
      have hc45 : c ≠ 45 := fun e => by rw [e] at hc; simp at hc
      unfold rn
      simp only
      rw [if_neg hc45, hm]
      unfold rnS
      simp
      omega
theorem num_rn (x : List UInt8) : numOf x = if Lib.itoa (rn x) = x then some (rn x) else none := by
  split
  · rename_i h
    have h9 := numOf_itoa (rn x) (rn_in x)
    rw [h] at h9
    exact h9
  · rename_i h
    cases hx : numOf x with
    | none => rfl
    | some n =>
      obtain ⟨a, b⟩ := numOf_sound hx
      have h9 := rn_itoa n b
      rw [a] at h9
      rw [h9] at h
      exact absurd a h
/-- The kind that the reference reads. -/
def rk (l : List UInt8) : Int := match (List.range' 1 9).find? (fun i => kw i == l) with
  | some i => (i : Int)
  | none => rn l
theorem rk_in (l : List UInt8) : In (rk l) := by
  unfold rk
  split
  · rename_i i hi
    have h2 := List.mem_of_find?_eq_some hi
    rw [List.mem_range'_1] at h2
    exact ⟨by omega, by omega⟩
  · exact rn_in l
theorem kd_rk (x : List UInt8) : kdOf x = if kindB (rk x) = x then some (rk x) else none := by
  cases hf : (List.range' 1 9).find? (fun i => kw i == x) with
  | some i =>
    have e1 : kdOf x = some (i : Int) := by unfold kdOf; rw [hf]
    have e2 : rk x = (i : Int) := by unfold rk; rw [hf]
    have h1 := List.find?_some hf
    have h2 := List.mem_of_find?_eq_some hf
    rw [List.mem_range'_1] at h2
    rw [e1, e2, if_pos]
    unfold kindB
    rw [if_pos ⟨by omega, by omega⟩]
    simpa using h1
  | none =>
    have e1 : kdOf x = match numOf x with | some v => if kindB v = x then some v else none | none => none := by unfold kdOf; rw [hf]; rfl
    have e2 : rk x = rn x := by unfold rk; rw [hf]
    rw [e1, e2, num_rn x]
    by_cases hi : Lib.itoa (rn x) = x
    · rw [if_pos hi]
    · rw [if_neg hi]
      simp only
      rw [if_neg]
      intro hk
      unfold kindB at hk
      by_cases hr : 1 ≤ rn x ∧ rn x < 10
      · rw [if_pos hr] at hk
        rw [List.find?_eq_none] at hf
        have h9 := hf (rn x).toNat (by rw [List.mem_range'_1]; omega)
        simp [hk] at h9
      · rw [if_neg hr] at hk
        exact hi hk

set_option maxHeartbeats 4000000 in
set_option maxRecDepth 100000 in
theorem rnum_any (l : List UInt8) (w : World) (hl : l.length < 4294967281) :
    Calls Tryd.prog 27 #[.string ⟨l.toArray⟩] w fun e w' => e = .returned (.int .i64 (rn l)) ∧ w' = w := by
  cases l with
  | nil =>
    have HU := runs_any [] w (by simp)
    have hu : un [] = none := rfl
    rw [hu] at HU
    have HU2 : Calls Tryd.prog 26 #[.string ⟨#[]⟩] w fun e w' => e = .returned (.tuple #[.int .u64 0, .bool false]) ∧ w' = w := HU
    go_enter Tryd.func27, Tryd.ntmps27
    go_wp2_with (first
      | (go_at_call 26; refine HU2.mono ?_; rintro e t1 ⟨rfl, rfl⟩))
    go_ret
    exact ⟨rfl, rfl⟩
  | cons c r =>
    have hx2 : (⟨(c :: r).toArray⟩ : ByteArray)[0]'(by simp [ByteArray.size]) = c := rfl
    have hne : (c :: r).isEmpty = false := rfl
    have hrl : r.length < 4294967281 := by simp at hl; omega
    by_cases h45 : c = 45
    · subst h45
      have HR : Hid (rn (45 :: r) = rnS true (un r)) := by unfold Hid rn; simp
      have HU := runs_any r w hrl
      have t45 : (((45 : UInt8).toNat : Int) == 45) = true := rfl
      have hex : (⟨(45 :: r).toArray⟩ : ByteArray).extract 1 (r.length + 1) = ⟨r.toArray⟩ := by rw [ext_list]; simp
      have hub : ∀ u, un r = some u → u < 18446744073709551616 := fun u hu => by
        unfold un at hu
        split at hu
        · rename_i v hv
          obtain rfl := Option.some.inj hu
          exact Lib.parseMag_lt hv
        · cases hu
      have HEX : Hid _ := hex
      have d1 : (1 : Int) ≤ (r.length : Int) + 1 := by omega
      go_enter Tryd.func27, Tryd.ntmps27
      go_upto_region 4 with fail
      clear HEX d1 t45 hx2 hne
      cases hu : un r with
      | none =>
        rw [hu] at HU HR
        have HR2 : Hid (rn (45 :: r) = 0) := HR.out
        clear HR hub hu
        go_wp2_with (first
          | (go_at_call 26; refine HU.mono ?_; rintro e t1 ⟨he1, rfl⟩
             have he2 : e = .returned (.tuple #[.int .u64 0, .bool false]) := he1
             clear he1
             subst he2))
        go_ret
        exact ⟨by rw [HR2.out]; rfl, rfl⟩
      | some u =>
        have hu64 := hub u hu
        rw [hu] at HU HR
        have HU2 : Calls Tryd.prog 26 #[.string ⟨r.toArray⟩] w fun e w' => e = .returned (.tuple #[.int .u64 (u : Int), .bool true]) ∧ w' = w := HU
        clear hub hu HU
        unfold rnS at HR
        simp only [true_and, if_true] at HR
        by_cases h1 : u = 9223372036854775808
        · rw [if_pos h1] at HR
          have HR2 : Hid (rn (45 :: r) = -9223372036854775808) := HR.out
          clear HR
          subst h1
          go_wp2_with (first
            | (go_at_call 26; refine HU2.mono ?_; rintro e t1 ⟨rfl, rfl⟩))
          go_ret
          exact ⟨by rw [HR2.out]; rfl, rfl⟩
        · rw [if_neg h1] at HR
          have d2 : ((u : Int) == 9223372036854775808) = false := by rw [beq_eq_false_iff_ne]; omega
          by_cases h2 : 9223372036854775807 < u
          · rw [if_pos h2] at HR
            have HR2 : Hid (rn (45 :: r) = 0) := HR.out
            have d3 : (9223372036854775807 : Int) < (u : Int) := by omega
            clear HR
            go_wp2_with (first
              | (go_at_call 26; refine HU2.mono ?_; rintro e t1 ⟨rfl, rfl⟩))
            go_ret
            exact ⟨by rw [HR2.out]; rfl, rfl⟩
          · rw [if_neg h2] at HR
            have HR2 : Hid (rn (45 :: r) = -(u : Int)) := HR.out
            have d3 : ¬ (9223372036854775807 : Int) < (u : Int) := by omega
            have hu63 : u ≤ 9223372036854775807 := by omega
            clear HR
            go_wp2_with (first
              | (go_at_call 26; refine HU2.mono ?_; rintro e t1 ⟨rfl, rfl⟩))
            go_ret
            exact ⟨by rw [HR2.out]; first | rfl | go_num, rfl⟩
    · have HR : Hid (rn (c :: r) = rnS false (un (c :: r))) := by unfold Hid rn; simp [h45]
      have HU := runs_any (c :: r) w hl
      have hn45 : (c.toNat : Int) ≠ 45 := fun e => h45 (by
        have h8 : c.toNat = (45 : UInt8).toNat := by have : (45 : UInt8).toNat = 45 := rfl
                                                     omega
        exact UInt8.toNat_inj.1 h8)
      have hb45 : ((c.toNat : Int) == 45) = false := by rw [beq_eq_false_iff_ne]; exact hn45
      have hub : ∀ u, un (c :: r) = some u → u < 18446744073709551616 := fun u hu => by
        unfold un at hu
        split at hu
        · rename_i v hv
          obtain rfl := Option.some.inj hu
          exact Lib.parseMag_lt hv
        · cases hu
      cases hu : un (c :: r) with
      | none =>
        rw [hu] at HU HR
        have HR2 : Hid (rn (c :: r) = 0) := HR.out
        clear HR hub hu
        go_enter Tryd.func27, Tryd.ntmps27
        go_wp2_with (first
          | (go_at_call 26; refine HU.mono ?_; rintro e t1 ⟨he1, rfl⟩
             have he2 : e = .returned (.tuple #[.int .u64 0, .bool false]) := he1
             clear he1
             subst he2))
        go_ret
        exact ⟨by rw [HR2.out]; rfl, rfl⟩
      | some u =>
        have hu64 := hub u hu
        rw [hu] at HU HR
        have HU2 : Calls Tryd.prog 26 #[.string ⟨(c :: r).toArray⟩] w fun e w' => e = .returned (.tuple #[.int .u64 (u : Int), .bool true]) ∧ w' = w := HU
        clear hub hu HU
        unfold rnS at HR
        simp only [Bool.false_eq_true, false_and, if_false] at HR
        by_cases h2 : 9223372036854775807 < u
        · rw [if_pos h2] at HR
          have HR2 : Hid (rn (c :: r) = 0) := HR.out
          have d3 : (9223372036854775807 : Int) < (u : Int) := by omega
          clear HR
          go_enter Tryd.func27, Tryd.ntmps27
          go_wp2_with (first
            | (go_at_call 26; refine HU2.mono ?_; rintro e t1 ⟨rfl, rfl⟩))
          go_ret
          exact ⟨by rw [HR2.out]; rfl, rfl⟩
        · rw [if_neg h2] at HR
          have HR2 : Hid (rn (c :: r) = (u : Int)) := HR.out
          have d3 : ¬ (9223372036854775807 : Int) < (u : Int) := by omega
          have hu63 : u ≤ 9223372036854775807 := by omega
          clear HR
          go_enter Tryd.func27, Tryd.ntmps27
          go_wp2_with (first
            | (go_at_call 26; refine HU2.mono ?_; rintro e t1 ⟨rfl, rfl⟩))
          go_ret
          exact ⟨by rw [HR2.out]; first | rfl | go_num, rfl⟩

set_option maxHeartbeats 4000000 in
set_option maxRecDepth 100000 in
theorem rkind_any (l : List UInt8) (w : World) (hl : l.length < 4294967281) :
    Calls Tryd.prog 28 #[.string ⟨l.toArray⟩] w fun e w' => e = .returned (.int .i64 (rk l)) ∧ Below w.heap.size w w' := by
  go_enter Tryd.func28, Tryd.ntmps28
  go_wp2_with fail
  go_loopw [3] (fun s3 wr => ∃ i : Nat, 1 ≤ i ∧ i ≤ 10 ∧ s3 = .int .i64 (i : Int) ∧ Hid (∀ j, 1 ≤ j → j < i → (kw j == l) = false) ∧ Hid (Below w.heap.size w wr)) (fun i _ => 10 - (RowKit.intOf i).toNat)
  case atStart => exact ⟨1, Nat.le_refl _, by decide, rfl, fun j h1 h2 => by omega, Below.refl _ _⟩
  case round =>
    obtain ⟨i, h1, hi, rfl, HJ, HB⟩ := hrel
    by_cases hlt : i < 10
    · have di : (i : Int) ≤ 9 := by omega
      have hin : In (i : Int) := ⟨by omega, by omega⟩
      have HW := word_any (i : Int) hin wr
      have hwb : wordB (i : Int) = kw i := by unfold wordB; rw [if_pos ⟨by omega, by omega⟩]; rfl
      rw [hwb] at HW
      clear hwb hin
      cases hy : (kw i == l) with
      | true =>
        have HKD : Hid (rk l = (i : Int)) := by unfold Hid rk; rw [find_at h1 hlt HJ.out hy]
        obtain ⟨X, hX⟩ : ∃ X, kw i = X := ⟨_, rfl⟩
        rw [hX] at HW hy
        clear HJ hX
        go_wp2_with (first
          | (go_at_call 36; refine HW.mono ?_; rintro e t1 ⟨rfl, bl⟩
             have HB1 : Hid (Below w.heap.size w t1) := HB.out.trans (below_low bl HB.out.size)
             clear bl))
        go_ret
        exact ⟨by rw [HKD.out]; rfl, HB1.out⟩
      | false =>
        have HJ2 : Hid (∀ j, 1 ≤ j → j < i + 1 → (kw j == l) = false) := fun j a b => by
          by_cases h8 : j = i
          · rw [h8]; exact hy
          · exact HJ.out j a (by omega)
        obtain ⟨X, hX⟩ : ∃ X, kw i = X := ⟨_, rfl⟩
        rw [hX] at HW hy
        clear HJ hX
        go_wp2_with (first
          | (go_at_call 36; refine HW.mono ?_; rintro e t1 ⟨rfl, bl⟩
             have HB1 : Hid (Below w.heap.size w t1) := HB.out.trans (below_low bl HB.out.size)
             clear bl))
        go_roundw
        case rel => exact ⟨i + 1, by omega, by omega, by go_num, HJ2.out, HB1.out⟩
        case measure => simp [RowKit.intOf]; omega
    · have di : ¬ (i : Int) ≤ 9 := by omega
      have HKD : Hid (rk l = rn l) := by unfold Hid rk; rw [find_none (fun j a b => HJ.out j a (by omega))]
      have HN := rnum_any l wr hl
      obtain ⟨v, hv⟩ : ∃ v, rn l = v := ⟨_, rfl⟩
      rw [hv] at HN HKD
      clear HJ hv
      go_wp2_with (first
        | (go_at_call 27; refine HN.mono ?_; rintro e t1 ⟨rfl, ht⟩
           have HB1 : Hid (Below w.heap.size w t1) := by rw [ht]; exact HB.out
           clear ht))
      go_ret
      exact ⟨by rw [HKD.out]; rfl, HB1.out⟩

end Go.Proofs.YtnjcjaaciphcgaaDoor
