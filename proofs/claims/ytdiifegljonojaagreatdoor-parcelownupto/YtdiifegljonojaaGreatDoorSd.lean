/-
  SEAT YtdiifegljonojaaGreatDoor: the reference: target, names, put.
-/
import Derived.Test.YtdiifegljonojaaGreatDoorSc
namespace Go.Proofs.YtdiifegljonojaaGreatDoor
open Go.RowKit
set_option linter.unusedVariables false

set_option maxHeartbeats 1000000 in
theorem target_any (s : ByteArray) (w : World) (h1 : 1 ≤ s.size) (h2 : s.size ≤ 127) : Calls Tryz.prog 51 #[.int .i64 3, .string s] w fun e w' => e = .returned (.bool (!Pt.zeroB s)) ∧ w' = w := by
  have f0 : decide ((s.size : Int) < 1) = false := decide_eq_false (by omega)
  have f1 : decide (127 < (s.size : Int)) = false := decide_eq_false (by omega)
  go_enter Tryz.func51, Tryz.ntmps51
  go_wp2
  go_loopw [5] (fun i wr => ∃ k : Nat, k ≤ s.size ∧ i = .int .i64 k ∧ wr = w ∧ (∀ j, j < k → s[j]! ≠ 0)) (fun i _ => s.size - (intOf i).toNat)
  case atStart => exact ⟨0, Nat.zero_le _, rfl, rfl, fun j hj => absurd hj (Nat.not_lt_zero _)⟩
  case round =>
    obtain ⟨k, hk, rfl, rfl, hall⟩ := hrel
    have H : Hid (∀ j, j < k → s[j]! ≠ 0) := hall
    clear hall
    by_cases hlt : k < s.size
    · have d1 : decide ((k : Int) < (s.size : Int)) = true := decide_eq_true (by omega)
      obtain ⟨x, hx⟩ : ∃ x : Nat, s[k].toNat = x := ⟨_, rfl⟩
      have hp : s[k]! = s[k] := getElem!_pos s k hlt
      have hm := Pt.byte_nat s k hlt
      by_cases x0 : x = 0
      · have hb : s[k]! = 0 := UInt8.toNat_inj.1 (by rw [hp, hx, x0]; rfl)
        rw [hb] at hm
        have HV : Hid (Pt.zeroB s = true) := decide_eq_true hm
        subst x0
        clear hm hb hp
        go_wp2
        go_ret
        rw [HV.out]
        exact ⟨rfl, rfl⟩
      have e0 : ((x : Int) == 0) = false := by simp [x0]
      have HP : Hid (s[k]! = s[k]) := hp
      clear hm hp
      go_wp2
      go_roundw
      case rel =>
        refine ⟨k + 1, by omega, by go_num, by simp, fun j hj => ?_⟩
        by_cases hjk : j < k
        · exact H.out j hjk
        · obtain rfl : j = k := by omega
          exact fun h => x0 (by rw [← hx, ← HP.out, h]; rfl)
      case measure => simp [intOf]; omega
    · obtain rfl : k = s.size := by omega
      have HV : Hid (Pt.zeroB s = false) := by
        refine decide_eq_false fun hc => ?_
        obtain ⟨j, hj, he⟩ := List.mem_iff_getElem.1 hc
        have hj' : j < s.size := by rw [Lib.size_eq]; exact hj
        have := H.out j hj'
        rw [getElem!_pos s j hj'] at this
        exact this (by simpa [ByteArray.getElem_eq_getElem_data] using he)
      go_wp2
      go_ret
      rw [HV.out]
      exact ⟨rfl, rfl⟩

/-- Names that may be a leaf's. -/
structure Nv (ns : List ByteArray) : Prop where
  good : ∀ x ∈ ns, Pt.Good x = true
  len : ns.length ≤ 64
  size : (Pt.tg ns).size ≤ 1023

theorem good_facts {x : ByteArray} (h : Pt.Good x = true) : 1 ≤ x.size ∧ x.size ≤ 63 ∧ Pt.noB x = false ∧ Pt.upB x = false ∧ (0 : UInt8) ∉ x.data.toList ∧ (47 : UInt8) ∉ x.data.toList := by
  unfold Pt.Good at h
  simp only [Bool.and_eq_true, decide_eq_true_eq, Bool.not_eq_true', decide_eq_false_iff_not, Pt.HasB, Pt.toList_data] at h
  obtain ⟨⟨⟨⟨⟨h1, h2⟩, h3⟩, h4⟩, h5⟩, h6⟩ := h
  refine ⟨h1, h2, ?_, ?_, h5, h6⟩
  · unfold Pt.noB
    have : x.data.toList ≠ [] := by
      intro e
      have : x.size = 0 := by rw [Lib.size_eq, e]; rfl
      omega
    simp [this, h3]
  · unfold Pt.upB; simp [h4]

theorem Nv.nm {ns : List ByteArray} (h : Nv ns) : Pt.nm (Pt.tg ns) = ns := Pt.nm_tg ns (fun x hx => (good_facts (h.good x hx)).2.2.2.2.2) (fun x hx => (good_facts (h.good x hx)).2.2.1)
theorem tg_beg (ns : List ByteArray) : Pt.begB (Pt.tg ns) = true := by
  unfold Pt.begB
  rw [Pt.tg_join]
  rfl
theorem tgA_zero {ns : List ByteArray} (h : ∀ x ∈ ns, (0 : UInt8) ∉ x.data.toList) : (0 : UInt8) ∉ Pt.tgA ns := by
  intro hc
  unfold Pt.tgA Pt.tgL at hc
  obtain ⟨l, hl, hm⟩ := List.mem_flatten.1 hc
  obtain ⟨y, hy, rfl⟩ := List.mem_map.1 hl
  obtain ⟨x, hx, rfl⟩ := List.mem_map.1 hy
  rcases List.mem_cons.1 hm with e | e
  · cases e
  · exact h x hx e
theorem tg_zero {ns : List ByteArray} (h : ∀ x ∈ ns, (0 : UInt8) ∉ x.data.toList) : Pt.zeroB (Pt.tg ns) = false := by
  refine decide_eq_false fun hc => ?_
  unfold Pt.tg at hc
  split at hc
  · rw [Pt.data_byteOf] at hc; simp at hc
  · rw [Pt.data_byteOf] at hc; exact tgA_zero h hc
theorem Nv.sp {ns : List ByteArray} (h : Nv ns) : Pt.spE (Pt.tg ns) = 0 ∧ Pt.spN (Pt.tg ns) = ns := by
  have hl : ns.any Pt.longB = false := by
    rw [List.any_eq_false]
    intro x hx
    have := (good_facts (h.good x hx)).2.1
    unfold Pt.longB
    simp; omega
  have h1 : Pt.spE (Pt.tg ns) = 0 := by
    unfold Pt.spE Pt.nmE
    rw [tg_beg, tg_zero (fun x hx => (good_facts (h.good x hx)).2.2.2.2.1), h.nm, hl]
    have a1 := h.size
    have a2 := h.len
    rw [if_pos rfl, if_neg (by simp), if_neg (by omega), if_neg (by omega), if_neg (by simp)]
  refine ⟨h1, ?_⟩
  unfold Pt.spN
  rw [if_pos h1, h.nm]
theorem Nv.trim {ns : List ByteArray} (h : Nv ns) : Pt.trim ns = ns := by
  cases ns with
  | nil => rfl
  | cons x r => exact Pt.trim_no (good_facts (h.good x (by simp))).2.2.2.1
theorem Nv.cl {ns : List ByteArray} (h : Nv ns) : Pt.clS (Pt.tg ns) = Pt.tg ns := by
  unfold Pt.clS Pt.clN
  rw [if_pos h.sp.1, h.sp.2, h.trim]

set_option maxHeartbeats 1000000 in
set_option maxRecDepth 100000 in
theorem names_ref (ns : List ByteArray) (w : World) (h : Nv ns) : Calls Tryz.prog 45 #[.string (Pt.tg ns)] w fun e w' => ∃ v, e = .returned (.tuple #[v, .bool true]) ∧ Pt.Ow w' w.heap.size v ns ∧ Below w.heap.size w w' := by
  obtain ⟨s, hs⟩ : ∃ s, Pt.tg ns = s := ⟨_, rfl⟩
  have hsz := h.size
  have hcl := h.cl
  have hsp := h.sp
  rw [hs] at hsz hcl hsp ⊢
  have HC := hide (Pt.rclean_any s w (by omega))
  rw [hcl, hsp.1] at HC
  have HSP := hide hsp
  have HN := hide h
  have hlen := h.len
  have e1 : (s.toList == s.toList) = true := by simp
  clear h hs hcl hsp
  go_enter Tryz.func45, Tryz.ntmps45
  go_wp2_with (first
    | (go_at_call 75; refine HC.out.mono ?_; rintro e u1 ⟨rfl, b1⟩; have HB1 := hide b1; clear b1)
    | (go_at_call 76; refine (Pt.rsplit_any s _ (by omega)).mono ?_; rintro e u2 ⟨v, rfl, o2, b2⟩
       rw [HSP.out.1]
       rw [HSP.out.2] at o2
       obtain ⟨va, vc, rfl, hv1, hv2, rd⟩ := Pt.Ow.rd o2
       have HO2 := hide o2
       have HB2 := hide b2
       have HRD := hide rd
       have hvx := Pt.Ow.vw o2
       have HVX := hide hvx
       clear o2 b2 rd hvx))
  obtain ⟨m, hm⟩ : ∃ m, ns.length = m := ⟨_, rfl⟩
  rw [hm]
  go_loop [8] (fun i => ∃ k : Nat, k ≤ m ∧ i = .int .i64 (k : Int)) (fun i => m - (intOf i).toNat)
  case atStart => exact ⟨0, Nat.zero_le _, rfl⟩
  case round =>
    obtain ⟨k, hk, rfl⟩ := hrel
    by_cases hlt : k < m
    · have i1 : (k : Int) < (m : Int) := by omega
      obtain ⟨g, o, hva⟩ : ∃ g o, va = some ⟨g, o, none⟩ := by
        cases va with
        | none => have := HRD.out.nil rfl; omega
        | some x => obtain ⟨a', c', e', _, _, _, hp⟩ := HVX.out; cases e'; obtain ⟨b9, o9, rfl⟩ := hp x rfl; exact ⟨b9, o9, rfl⟩
      subst hva
      have hc := RdS.get HRD.out (show k < ns.length by omega)
      obtain ⟨y, hy⟩ : ∃ y, ns.getD k ByteArray.empty = y := ⟨_, rfl⟩
      rw [hy] at hc
      have hyg : Pt.upB y = false := by
        refine (good_facts (HN.out.good y ?_)).2.2.2.1
        rw [← hy, List.getD_eq_getElem?_getD, List.getElem?_eq_getElem (show k < ns.length by omega)]
        exact List.getElem_mem _
      have hyu : ¬ y.toList = [46, 46] := fun e => by rw [(Pt.up_list y).2 e] at hyg; cases hyg
      have hyu2 : (y.toList == [46, 46]) = false := by simp [hyu]
      clear hy hyg
      go_wp2
      go_round
      case rel => exact ⟨k + 1, by omega, by go_num⟩
      case measure => simp [intOf]; omega
    · have d1 : decide ((k : Int) < (m : Int)) = false := decide_eq_false (by omega)
      go_wp2
      go_ret2
      exact ⟨_, rfl, by have h9 := Pt.Ow.lower HO2.out HB1.out.size; rw [← hm]; exact h9, HB1.out.trans (HB2.out.mono HB1.out.size)⟩
end Go.Proofs.YtdiifegljonojaaGreatDoor
