/-
  SEAT YtnjcjaaciphcgaaDoor: the floor's line, and a finding's kind.
-/
import Derived.Test.YtnjcjaaciphcgaaDoorVe
namespace Go.Proofs.YtnjcjaaciphcgaaDoor
open Go.RowKit Go.Sort
set_option linter.unusedVariables false

/-- A floor that is read. -/
def uOf (l : List UInt8) : Option Nat :=
  match Lib.parseUintB 64 l with
  | .ok u => if Lib.decDigits u = l then some u else none
  | _ => none
def fw : List UInt8 := [102, 108, 111, 111, 114]
def flr (l : List UInt8) : Option Nat := (bh l fw).bind uOf

set_option maxHeartbeats 4000000 in
set_option maxRecDepth 100000 in
theorem floor_any (q k tb o : Nat) (l : List UInt8) (cs : Array Value) (ty : TypeId) (w : World) (hR : RdA w q l k) (hl : l.length < 4294967281) (hk : k ≤ 1000000000000) (hb : w.heap[tb]? = some (.cells cs ty (0, 0))) (ho : o < cs.size) (ht : P10 w) (hv : EV w) (h9 : 9 ≤ tb) (hq9 : 9 ≤ q) (hne : tb ≠ q) :
    Calls Tryd.prog 37 #[.pointer (some ⟨q, 0, none⟩), .pointer (some ⟨tb, o, none⟩)] w fun e w' => ∃ v : Int, e = .returned (.bool (flr l).isSome) ∧ (∀ n : Nat, flr l = some n → v = (n : Int)) ∧ w'.heap[tb]? = some (.cells (cs.setIfInBounds o (.int .u64 v)) ty (0, 0)) ∧ RdA w' q (cutN l).2.1 (k + 1) ∧ Two q tb w w' := by
  have HBE : Calls Tryd.prog 49 _ w _ := behind_any q k l [102, 108, 111, 111, 114] w hR hl hk
  have HP : Hid (P10 w) := ht
  have HV : Hid (EV w) := hv
  have HB : Hid (w.heap[tb]? = some (.cells cs ty (0, 0))) := hb
  have hcell : ∀ u : World, u.heap[tb]? = some (.cells cs ty (0, 0)) → (∃ x, u.cell? ⟨tb, o, none⟩ = some x) ∧ u.frozen? ⟨tb, o, none⟩ = false := fun u hu => by
    constructor
    · exact ⟨cs[o], by simp [World.cell?, hu, ho]⟩
    · simp [World.frozen?, hu]
  have HC : Hid _ := hcell
  clear hR hb hcell ht hv
  obtain ⟨r, hr⟩ : ∃ r, bh l [102, 108, 111, 111, 114] = r := ⟨_, rfl⟩
  obtain ⟨X, hX⟩ : ∃ X, r.getD [] = X := ⟨_, rfl⟩
  obtain ⟨f, hf⟩ : ∃ f, r.isSome = f := ⟨_, rfl⟩
  have hXl : X.length ≤ l.length := by
    cases r with
    | none => rw [← hX]; simp
    | some x => rw [← hX]; exact bh_len hr
  rw [hr, hX, hf] at HBE
  have HN : Hid (flr l = if f = true then uOf X else none) := by
    unfold Hid flr fw
    rw [hr, ← hX, ← hf]
    cases r <;> rfl
  clear hr hX hf
  cases hp : Lib.parseUintB 64 X with
  | ok n =>
    have hn64 : n < 18446744073709551616 := by have h8 := Lib.parseUintB_le hp; omega
    have HU : Hid (uOf X = if Lib.decDigits n = X then some n else none) := by unfold Hid uOf; rw [hp]
    have HPU : ∀ u : World, Calls Tryd.prog 50 #[.string ⟨X.toArray⟩, .int .i64 10, .int .i64 64] u fun e w' => e = .returned (.tuple #[.int .u64 (n : Int), .nilIface]) ∧ Below u.heap.size u w' := fun u => (Tryd.strconv_ParseUint_10_at64_ok ⟨X.toArray⟩ (by simp only [ByteArray.size]; simp; omega) n hp u).mono fun e w' ⟨he, hw⟩ => ⟨he, by
      rcases hw with rfl | rfl
      · exact Below.refl _ _
      · exact bytes_below _ _ _⟩
    have HPH : Hid _ := HPU
    clear HPU hp
    obtain ⟨y, hy⟩ : ∃ y, (Lib.decDigits n == X) = y := ⟨_, rfl⟩
    have HU2 : Hid (uOf X = if y = true then some n else none) := by unfold Hid; rw [HU.out, ← hy]; simp
    clear HU
    obtain ⟨D, hD⟩ : ∃ D, Lib.decDigits n = D := ⟨_, rfl⟩
    rw [hD] at hy
    have HD : Hid (Lib.decDigits n = D) := hD
    clear hD
    cases f
    all_goals
      go_enter Tryd.func37, Tryd.ntmps37
      go_upto_region 3 with (first
        | (go_at_call 49; refine HBE.mono ?_; rintro e t1 ⟨rfl, hr, tw⟩
           have HR1 : Hid (RdA t1 q (cutN l).2.1 (k + 1)) := hr
           have HW1 : Hid (Two q q w t1) := tw
           clear hr tw)
        | (go_at_call 50; refine (HPH.out _).mono ?_; rintro e t2 ⟨rfl, bl⟩
           have HW2 : Hid (Two q q w t2) := HW1.out.trans (Two.of bl)
           have HR2 : Hid (RdA t2 q (cutN l).2.1 (k + 1)) := by unfold Hid RdA; rw [bl.block q (Array.getElem?_eq_some_iff.1 HR1.out).1]; exact HR1.out
           have HB2 : Hid (t2.heap[tb]? = some (.cells cs ty (0, 0))) := blk_two HB.out HW2.out hne
           clear bl))
      obtain ⟨⟨x, hx⟩, fz⟩ := HC.out t2 HB2.out
      have HB3 : Hid ((t2.setCell ⟨tb, o, none⟩ (.int .u64 (n : Int))).heap[tb]? = some (.cells (cs.setIfInBounds o (.int .u64 (n : Int))) ty (0, 0))) := Joins.block_setCell HB2.out _
      have HW3 : Hid (Two q tb w (t2.setCell ⟨tb, o, none⟩ (.int .u64 (n : Int)))) := HW2.out.one.trans (Two.set t2 tb o _ (Or.inr rfl))
      have HR3 : Hid (RdA (t2.setCell ⟨tb, o, none⟩ (.int .u64 (n : Int))) q (cutN l).2.1 (k + 1)) := rda_two HR2.out (Two.set t2 tb o _ (Or.inl rfl)) (fun h => hne h.symm)
      go_upto_region 4 with fail
      clear hx fz
      obtain ⟨W3, hW3⟩ : ∃ W3, t2.setCell ⟨tb, o, none⟩ (.int .u64 (n : Int)) = W3 := ⟨_, rfl⟩
      rw [hW3] at HB3 HW3 HR3 ⊢
      clear hW3
    · go_wp2_with fail
      go_ret
      exact ⟨_, by rw [HN.out]; rfl, fun m hm => (by rw [HN.out] at hm; cases hm), HB3.out, HR3.out, HW3.out⟩
    · go_wp2_with (first
        | (go_at_call 17; refine (fmtu_any n hn64 _ (p10_two HP.out HW3.out hq9 h9)).mono ?_; rintro e t4 ⟨rfl, bl⟩; rw [HD.out]
           have HB4 : Hid (t4.heap[tb]? = some (.cells (cs.setIfInBounds o (.int .u64 (n : Int))) ty (0, 0))) := (bl.block _ (Array.getElem?_eq_some_iff.1 HB3.out).1).trans HB3.out
           have HW4 : Hid (Two q tb w t4) := HW3.out.trans (Two.of bl)
           have HR4 : Hid (RdA t4 q (cutN l).2.1 (k + 1)) := by unfold Hid RdA; rw [bl.block q (Array.getElem?_eq_some_iff.1 HR3.out).1]; exact HR3.out
           clear bl))
      go_ret
      refine ⟨_, ?_, fun m hm => ?_, HB4.out, HR4.out, HW4.out⟩
      · have h8 := HN.out
        simp at h8
        rw [h8, HU2.out]
        cases y <;> rfl
      · have h8 := HN.out
        simp at h8
        rw [h8, HU2.out] at hm
        split at hm
        · rw [Option.some.inj hm]
        · cases hm
  | «syntax» =>
    have HU : Hid (uOf X = none) := by unfold Hid uOf; rw [hp]
    obtain ⟨vv, hvv⟩ : ∃ vv : Int, 0 = vv := ⟨_, rfl⟩
    have HPU : ∀ u : World, EV u → Calls Tryd.prog 50 #[.string ⟨X.toArray⟩, .int .i64 10, .int .i64 64] u fun e w' => ∃ M, e = .returned (.tuple #[.int .u64 vv, .iface 115 (.pointer (some ⟨M, 0, none⟩))]) ∧ Below u.heap.size u w' := fun u hu => by
      obtain ⟨tp, p9, hvar⟩ := hu.syn
      rw [← hvv]
      exact (Tryd.strconv_ParseUint_10_at64_syntax_var ⟨X.toArray⟩ (by simp only [ByteArray.size]; simp; omega) hp tp p9 u hvar).mono fun e w' ⟨M, he, _, _, hw⟩ => ⟨M, he, hw⟩
    have HPH : Hid _ := HPU
    have HUn : Hid (flr l = none) := by unfold Hid; rw [HN.out, HU.out]; cases f <;> rfl
    clear HPU hp hvv HU HN
    cases f
    all_goals
      go_enter Tryd.func37, Tryd.ntmps37
      go_upto_region 3 with (first
        | (go_at_call 49; refine HBE.mono ?_; rintro e t1 ⟨rfl, hr, tw⟩
           have HR1 : Hid (RdA t1 q (cutN l).2.1 (k + 1)) := hr
           have HW1 : Hid (Two q q w t1) := tw
           clear hr tw)
        | (go_at_call 50; refine (HPH.out _ (HV.out.two HW1.out hq9 hq9)).mono ?_; rintro e t2 ⟨M, rfl, bl⟩
           have HW2 : Hid (Two q q w t2) := HW1.out.trans (Two.of bl)
           have HR2 : Hid (RdA t2 q (cutN l).2.1 (k + 1)) := by unfold Hid RdA; rw [bl.block q (Array.getElem?_eq_some_iff.1 HR1.out).1]; exact HR1.out
           have HB2 : Hid (t2.heap[tb]? = some (.cells cs ty (0, 0))) := blk_two HB.out HW2.out hne
           clear bl))
      obtain ⟨⟨x, hx⟩, fz⟩ := HC.out t2 HB2.out
      have HB3 : Hid ((t2.setCell ⟨tb, o, none⟩ (.int .u64 vv)).heap[tb]? = some (.cells (cs.setIfInBounds o (.int .u64 vv)) ty (0, 0))) := Joins.block_setCell HB2.out _
      have HW3 : Hid (Two q tb w (t2.setCell ⟨tb, o, none⟩ (.int .u64 vv))) := HW2.out.one.trans (Two.set t2 tb o _ (Or.inr rfl))
      have HR3 : Hid (RdA (t2.setCell ⟨tb, o, none⟩ (.int .u64 vv)) q (cutN l).2.1 (k + 1)) := rda_two HR2.out (Two.set t2 tb o _ (Or.inl rfl)) (fun h => hne h.symm)
      go_wp2_with fail
      go_ret
      exact ⟨_, by rw [HUn.out]; rfl, fun m hm => (by rw [HUn.out] at hm; cases hm), HB3.out, HR3.out, HW3.out⟩
  | range =>
    have HU : Hid (uOf X = none) := by unfold Hid uOf; rw [hp]
    obtain ⟨vv, hvv⟩ : ∃ vv : Int, 18446744073709551615 = vv := ⟨_, rfl⟩
    have HPU : ∀ u : World, EV u → Calls Tryd.prog 50 #[.string ⟨X.toArray⟩, .int .i64 10, .int .i64 64] u fun e w' => ∃ M, e = .returned (.tuple #[.int .u64 vv, .iface 115 (.pointer (some ⟨M, 0, none⟩))]) ∧ Below u.heap.size u w' := fun u hu => by
      obtain ⟨tp, p9, hvar⟩ := hu.ran
      rw [← hvv]
      exact (Tryd.strconv_ParseUint_10_at64_range_var ⟨X.toArray⟩ (by simp only [ByteArray.size]; simp; omega) hp tp p9 u hvar).mono fun e w' ⟨M, he, _, _, hw⟩ => ⟨M, he, hw⟩
    have HPH : Hid _ := HPU
    have HUn : Hid (flr l = none) := by unfold Hid; rw [HN.out, HU.out]; cases f <;> rfl
    clear HPU hp hvv HU HN
    cases f
    all_goals
      go_enter Tryd.func37, Tryd.ntmps37
      go_upto_region 3 with (first
        | (go_at_call 49; refine HBE.mono ?_; rintro e t1 ⟨rfl, hr, tw⟩
           have HR1 : Hid (RdA t1 q (cutN l).2.1 (k + 1)) := hr
           have HW1 : Hid (Two q q w t1) := tw
           clear hr tw)
        | (go_at_call 50; refine (HPH.out _ (HV.out.two HW1.out hq9 hq9)).mono ?_; rintro e t2 ⟨M, rfl, bl⟩
           have HW2 : Hid (Two q q w t2) := HW1.out.trans (Two.of bl)
           have HR2 : Hid (RdA t2 q (cutN l).2.1 (k + 1)) := by unfold Hid RdA; rw [bl.block q (Array.getElem?_eq_some_iff.1 HR1.out).1]; exact HR1.out
           have HB2 : Hid (t2.heap[tb]? = some (.cells cs ty (0, 0))) := blk_two HB.out HW2.out hne
           clear bl))
      obtain ⟨⟨x, hx⟩, fz⟩ := HC.out t2 HB2.out
      have HB3 : Hid ((t2.setCell ⟨tb, o, none⟩ (.int .u64 vv)).heap[tb]? = some (.cells (cs.setIfInBounds o (.int .u64 vv)) ty (0, 0))) := Joins.block_setCell HB2.out _
      have HW3 : Hid (Two q tb w (t2.setCell ⟨tb, o, none⟩ (.int .u64 vv))) := HW2.out.one.trans (Two.set t2 tb o _ (Or.inr rfl))
      have HR3 : Hid (RdA (t2.setCell ⟨tb, o, none⟩ (.int .u64 vv)) q (cutN l).2.1 (k + 1)) := rda_two HR2.out (Two.set t2 tb o _ (Or.inl rfl)) (fun h => hne h.symm)
      go_wp2_with fail
      go_ret
      exact ⟨_, by rw [HUn.out]; rfl, fun m hm => (by rw [HUn.out] at hm; cases hm), HB3.out, HR3.out, HW3.out⟩

/-- A finding's kind that is read. -/
def kdOf (l : List UInt8) : Option Int :=
  match (List.range' 1 9).find? (fun i => kw i == l) with
  | some i => some (i : Int)
  | none => match numOf l with
    | some v => if kindB v = l then some v else none
    | none => none

theorem find_at {l : List UInt8} {i : Nat} (h1 : 1 ≤ i) (hi : i < 10) (hno : ∀ j, 1 ≤ j → j < i → (kw j == l) = false) (hy : (kw i == l) = true) : (List.range' 1 9).find? (fun i => kw i == l) = some i := by
  rw [List.find?_eq_some_iff_append]
  refine ⟨hy, List.range' 1 (i - 1), List.range' (i + 1) (9 - i), ?_, fun a ha => ?_⟩
  · have e1 : List.range' 1 9 = List.range' 1 (i - 1) ++ List.range' (1 + 1 * (i - 1)) (9 - (i - 1)) := by rw [List.range'_append]; congr 1; omega
    rw [e1]
    congr 1
    have e2 : 9 - (i - 1) = (9 - i) + 1 := by omega
    rw [e2, List.range'_succ]
    congr 1
    · omega
    · congr 1; omega
  · rw [List.mem_range'_1] at ha
    have h9 := hno a (by omega) (by omega)
    simp only [h9]
    rfl
theorem find_none {l : List UInt8} (hno : ∀ j, 1 ≤ j → j < 10 → (kw j == l) = false) : (List.range' 1 9).find? (fun i => kw i == l) = none := by
  rw [List.find?_eq_none]
  intro x hx
  rw [List.mem_range'_1] at hx
  rw [hno x (by omega) (by omega)]
  simp

set_option maxHeartbeats 4000000 in
set_option maxRecDepth 100000 in
theorem iskind_any (l : List UInt8) (tb o : Nat) (cs : Array Value) (ty : TypeId) (w : World) (hl : l.length ≤ 4294967281) (hb : w.heap[tb]? = some (.cells cs ty (0, 0))) (ho : o < cs.size) (ht : P10 w) (hv : EV w) (hkw : KW w) (h9 : 9 ≤ tb) :
    Calls Tryd.prog 53 #[.string ⟨l.toArray⟩, .pointer (some ⟨tb, o, none⟩)] w fun e w' => ∃ v, e = .returned (.bool (kdOf l).isSome) ∧ (∀ n, kdOf l = some n → v = n) ∧ w'.heap[tb]? = some (.cells (cs.setIfInBounds o (.int .i64 v)) ty (0, 0)) ∧ Two tb tb w w' := by
  have hcell : ∀ u : World, u.heap[tb]? = some (.cells cs ty (0, 0)) → (∃ x, u.cell? ⟨tb, o, none⟩ = some x) ∧ u.frozen? ⟨tb, o, none⟩ = false := fun u hu => by
    constructor
    · exact ⟨cs[o], by simp [World.cell?, hu, ho]⟩
    · simp [World.frozen?, hu]
  have HC : Hid _ := hcell
  have HB : Hid (w.heap[tb]? = some (.cells cs ty (0, 0))) := hb
  have HP : Hid (P10 w) := ht
  have HV : Hid (EV w) := hv
  have HK : Hid (KW w) := hkw
  clear hcell hb ht hv hkw
  go_enter Tryd.func53, Tryd.ntmps53
  go_wp2_with fail
  go_loopw [5] (fun s5 wr => ∃ i : Nat, 1 ≤ i ∧ i ≤ 10 ∧ s5 = .int .i64 (i : Int) ∧ wr = w ∧ Hid (∀ j, 1 ≤ j → j < i → (kw j == l) = false)) (fun i _ => 10 - (RowKit.intOf i).toNat)
  case atStart => exact ⟨1, Nat.le_refl _, by decide, rfl, rfl, fun j h1 h2 => by omega⟩
  case round =>
    obtain ⟨i, h1, hi, rfl, rfl, HJ⟩ := hrel
    by_cases hlt : i < 10
    · have di : (i : Int) < 10 := by omega
      have hc := HK.out i hlt
      cases hy : (kw i == l) with
      | true =>
        have HKD : Hid (kdOf l = some (i : Int)) := by unfold Hid kdOf; rw [find_at h1 hlt HJ.out hy]
        obtain ⟨X, hX⟩ : ∃ X, kw i = X := ⟨_, rfl⟩
        rw [hX] at hc hy
        obtain ⟨⟨x, hx⟩, fz⟩ := HC.out wr HB.out
        have HB2 : Hid ((wr.setCell ⟨tb, o, none⟩ (.int .i64 (i : Int))).heap[tb]? = some (.cells (cs.setIfInBounds o (.int .i64 (i : Int))) ty (0, 0))) := Joins.block_setCell HB.out _
        have HW2 : Hid (Two tb tb wr (wr.setCell ⟨tb, o, none⟩ (.int .i64 (i : Int)))) := Two.set wr tb o _ (Or.inl rfl)
        clear HJ hX
        go_wp2_with fail
        go_ret
        exact ⟨_, by rw [HKD.out]; rfl, fun n hn => (by rw [HKD.out] at hn; exact Option.some.inj hn), HB2.out, HW2.out⟩
      | false =>
        have HJ2 : Hid (∀ j, 1 ≤ j → j < i + 1 → (kw j == l) = false) := fun j a b => by
          by_cases h8 : j = i
          · rw [h8]; exact hy
          · exact HJ.out j a (by omega)
        obtain ⟨X, hX⟩ : ∃ X, kw i = X := ⟨_, rfl⟩
        rw [hX] at hc hy
        clear HJ hX
        go_wp2_with fail
        go_roundw
        case rel => exact ⟨i + 1, by omega, by omega, by go_num, by trivial, HJ2.out⟩
        case measure => simp [RowKit.intOf]; omega
    · have di : ¬ (i : Int) < 10 := by omega
      have HKD : Hid (kdOf l = match numOf l with | some v => if kindB v = l then some v else none | none => none) := by unfold Hid kdOf; rw [find_none (fun j a b => HJ.out j a (by omega))]
      clear HJ
      cases hn : numOf l with
      | none =>
        have HKN : Hid (kdOf l = none) := by unfold Hid; rw [HKD.out, hn]
        have HIS := isnum_any l tb o cs ty wr hl HB.out ho HP.out HV.out h9
        rw [hn] at HIS
        clear hn HKD
        go_wp2_with (first
          | (go_at_call 51; refine HIS.mono ?_; rintro e t1 ⟨v, he1, _, hb2, tw⟩
             have he2 : e = .returned (.bool false) := he1
             clear he1
             subst he2
             have HB2 : Hid (t1.heap[tb]? = some (.cells (cs.setIfInBounds o (.int .i64 v)) ty (0, 0))) := hb2
             have HW2 : Hid (Two tb tb wr t1) := tw
             clear hb2 tw))
        go_ret
        exact ⟨_, by rw [HKN.out]; rfl, fun n hm => (by rw [HKN.out] at hm; cases hm), HB2.out, HW2.out⟩
      | some v =>
        obtain ⟨y, hy⟩ : ∃ y, (kindB v == l) = y := ⟨_, rfl⟩
        have HKN : Hid (kdOf l = if y = true then some v else none) := by unfold Hid; rw [HKD.out, hn, ← hy]; simp
        have hin : In v := by
          unfold numOf at hn
          split at hn
          · rename_i a ha
            split at hn
            · rw [← Option.some.inj hn]; exact Lib.atoiAll_bounds ha
            · cases hn
          · cases hn
        have HIS := isnum_any l tb o cs ty wr hl HB.out ho HP.out HV.out h9
        rw [hn] at HIS
        obtain ⟨X, hX⟩ : ∃ X, kindB v = X := ⟨_, rfl⟩
        rw [hX] at hy
        have HX : Hid (kindB v = X) := hX
        clear hn HKD hX
        go_wp2_with (first
          | (go_at_call 51; refine HIS.mono ?_; rintro e t1 ⟨v2, he1, hv2, hb2, tw⟩
             have he2 : e = .returned (.bool true) := he1
             clear he1
             subst he2
             obtain rfl := hv2 v rfl
             have HB2 : Hid (t1.heap[tb]? = some (.cells (cs.setIfInBounds o (.int .i64 v2)) ty (0, 0))) := hb2
             have HW2 : Hid (Two tb tb wr t1) := tw
             have cv : t1.cell? ⟨tb, o, none⟩ = some (.int .i64 v2) := by simp [World.cell?, hb2, ho]
             clear hb2 tw hv2)
          | (go_at_call 20; refine (kind_any _ hin _ (p10_two HP.out HW2.out h9 h9) (HK.out.two HW2.out h9 h9)).mono ?_; rintro e t2 ⟨rfl, bl⟩; rw [HX.out]
             have HB3 : Hid (t2.heap[tb]? = some (.cells (cs.setIfInBounds o (.int .i64 v2)) ty (0, 0))) := (bl.block _ (Array.getElem?_eq_some_iff.1 HB2.out).1).trans HB2.out
             have HW3 : Hid (Two tb tb wr t2) := HW2.out.trans (Two.of bl)
             clear bl cv))
        go_ret
        refine ⟨_, ?_, fun m hm => ?_, HB3.out, HW3.out⟩
        · rw [HKN.out]; cases y <;> rfl
        · rw [HKN.out] at hm
          split at hm
          · exact Option.some.inj hm
          · cases hm

end Go.Proofs.YtnjcjaaciphcgaaDoor
