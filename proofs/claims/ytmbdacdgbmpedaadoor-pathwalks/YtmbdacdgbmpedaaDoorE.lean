/-
  SEAT YtmbdacdgbmpedaaDoor: Within.
-/
import Derived.Test.YtmbdacdgbmpedaaDoorD
namespace Go.Proofs.YtmbdacdgbmpedaaDoor
open Go.RowKit
set_option linter.unusedVariables false

/-- What Within tells. -/
def preB (M L : List ByteArray) : Bool := decide (L.take M.length = M)
def wiE (s t : ByteArray) : Int := if spE s = 0 then (if spE t = 0 then (if (trim (spN s)).any upB || (trim (spN t)).any upB then 160 else 0) else spE t) else spE s
def wiB (s t : ByteArray) : Bool := decide (wiE s t = 0) && preB (trim (spN t)) (trim (spN s))

theorem toList_inj {x y : ByteArray} (h : x.toList = y.toList) : x = y := by
  rw [toList_data, toList_data] at h
  rw [← byteOf_data x, h, byteOf_data]

set_option maxHeartbeats 2000000 in
set_option maxRecDepth 100000 in
theorem rwithin_any (s t : ByteArray) (w : World) (hs : s.size ≤ 9223372036854775807) (ht : t.size ≤ 9223372036854775807) :
    Calls Tryd.prog 17 #[.string s, .string t] w fun e w' => e = .returned (.tuple #[.bool (wiB s t), .int .i64 (wiE s t)]) ∧ Below w.heap.size w w' := by
  by_cases h1 : spE s = 0
  · by_cases h2 : spE t = 0
    · obtain ⟨xs, hxs⟩ : ∃ xs, spN s = xs := ⟨_, rfl⟩
      obtain ⟨ys, hys⟩ : ∃ ys, spN t = ys := ⟨_, rfl⟩
      obtain ⟨L, hL⟩ : ∃ L, trim xs = L := ⟨_, rfl⟩
      obtain ⟨M, hM⟩ : ∃ M, trim ys = M := ⟨_, rfl⟩
      have hE : wiE s t = if L.any upB || M.any upB then 160 else 0 := by simp [wiE, h1, h2, hxs, hys, hL, hM]
      have hB : wiB s t = (decide (wiE s t = 0) && preB M L) := by simp [wiB, hxs, hys, hL, hM]
      have HE : Hid (wiE s t = if L.any upB || M.any upB then 160 else 0) := hE
      have HB : Hid (wiB s t = (decide (wiE s t = 0) && preB M L)) := hB
      clear hE hB
      have T1 : Hid True := trivial
      have T2 : Hid True := trivial
      have T3 : Hid True := trivial
      cases hU1 : L.any upB with
      | true =>
        have hv : wiE s t = 160 := by rw [HE.out, hU1]; rfl
        have hb : wiB s t = false := by rw [HB.out, hv]; rfl
        rw [hv, hb]
        clear HE HB hv hb
        have hU2 : M.any upB = M.any upB := rfl
        go_enter Tryd.func17, Tryd.ntmps17
        go_wp2_with (first
          | (go_at_call 8; have h9 := T1; clear h9; refine (rsplit_any s _ hs).mono ?_; rintro e u ⟨v, rfl, ow, bel⟩; rw [h1]; rw [hxs] at ow; have V1 : Hid (Vw u v xs) := ow.vw; have HB1 : Hid (Below w.heap.size w u) := bel; clear ow bel T1)
          | (go_at_call 8; refine (rsplit_any t _ ht).mono ?_; rintro e u2 ⟨v2, rfl, ow, bel⟩; rw [h2]; rw [hys] at ow; have V2 : Hid (Vw u2 v2 ys) := ow.vw; have HB2 : Hid (Below u.heap.size u u2) := bel; have V3 : Hid (Vw u2 v xs) := Vw.below V1.out bel; clear ow bel V1)
          | (go_at_call 32; have h9 := T2; clear h9; refine (trimmed_any _ xs _ V3.out).mono ?_; rintro e u3 ⟨v3, rfl, vw, hu⟩; rw [hu]; clear hu; rw [hL] at vw; obtain ⟨a, c, rfl, c1, c2, rd, hx⟩ := vw; have X1 : Hid (Vw u2 (.slice a L.length c) L) := ⟨a, c, rfl, c1, c2, rd, hx⟩; have R1 : Hid (RdS u2 a L.length L) := rd; clear T2 rd hx)
          | (go_at_call 32; refine (trimmed_any _ ys _ V2.out).mono ?_; rintro e u3 ⟨v4, rfl, vw, hu⟩; rw [hu]; clear hu; rw [hM] at vw; obtain ⟨a', c', rfl, c1', c2', rd, hx⟩ := vw; have X2 : Hid (Vw u2 (.slice a' M.length c') M) := ⟨a', c', rfl, c1', c2', rd, hx⟩; have R2 : Hid (RdS u2 a' M.length M) := rd; clear rd hx)
          | (go_at_call 33; have h9 := T3; clear h9; refine (ups_any _ L _ X1.out).mono ?_; rintro e u3 ⟨rfl, hu⟩; rw [hu, hU1]; clear hu T3)
          | (go_at_call 33; refine (ups_any _ M _ X2.out).mono ?_; rintro e u3 ⟨rfl, hu⟩; rw [hu, hU2]; clear hu))
        go_ret2
        exact ⟨rfl, HB1.out.trans (HB2.out.mono HB1.out.size)⟩
      | false =>
        cases hU2 : M.any upB with
        | true =>
          have hv : wiE s t = 160 := by rw [HE.out, hU1, hU2]; rfl
          have hb : wiB s t = false := by rw [HB.out, hv]; rfl
          rw [hv, hb]
          clear HE HB hv hb
          go_enter Tryd.func17, Tryd.ntmps17
          go_wp2_with (first
            | (go_at_call 8; have h9 := T1; clear h9; refine (rsplit_any s _ hs).mono ?_; rintro e u ⟨v, rfl, ow, bel⟩; rw [h1]; rw [hxs] at ow; have V1 : Hid (Vw u v xs) := ow.vw; have HB1 : Hid (Below w.heap.size w u) := bel; clear ow bel T1)
            | (go_at_call 8; refine (rsplit_any t _ ht).mono ?_; rintro e u2 ⟨v2, rfl, ow, bel⟩; rw [h2]; rw [hys] at ow; have V2 : Hid (Vw u2 v2 ys) := ow.vw; have HB2 : Hid (Below u.heap.size u u2) := bel; have V3 : Hid (Vw u2 v xs) := Vw.below V1.out bel; clear ow bel V1)
            | (go_at_call 32; have h9 := T2; clear h9; refine (trimmed_any _ xs _ V3.out).mono ?_; rintro e u3 ⟨v3, rfl, vw, hu⟩; rw [hu]; clear hu; rw [hL] at vw; obtain ⟨a, c, rfl, c1, c2, rd, hx⟩ := vw; have X1 : Hid (Vw u2 (.slice a L.length c) L) := ⟨a, c, rfl, c1, c2, rd, hx⟩; have R1 : Hid (RdS u2 a L.length L) := rd; clear T2 rd hx)
            | (go_at_call 32; refine (trimmed_any _ ys _ V2.out).mono ?_; rintro e u3 ⟨v4, rfl, vw, hu⟩; rw [hu]; clear hu; rw [hM] at vw; obtain ⟨a', c', rfl, c1', c2', rd, hx⟩ := vw; have X2 : Hid (Vw u2 (.slice a' M.length c') M) := ⟨a', c', rfl, c1', c2', rd, hx⟩; have R2 : Hid (RdS u2 a' M.length M) := rd; clear rd hx)
            | (go_at_call 33; have h9 := T3; clear h9; refine (ups_any _ L _ X1.out).mono ?_; rintro e u3 ⟨rfl, hu⟩; rw [hu, hU1]; clear hu T3)
            | (go_at_call 33; refine (ups_any _ M _ X2.out).mono ?_; rintro e u3 ⟨rfl, hu⟩; rw [hu, hU2]; clear hu))
          go_ret2
          exact ⟨rfl, HB1.out.trans (HB2.out.mono HB1.out.size)⟩
        | false =>
          have hv : wiE s t = 0 := by rw [HE.out, hU1, hU2]; rfl
          have hb : wiB s t = preB M L := by rw [HB.out, hv]; rfl
          rw [hv, hb]
          clear HE HB hv hb
          by_cases hml : L.length < M.length
          · have hp : preB M L = false := decide_eq_false fun h => by have := congrArg List.length h; simp at this; omega
            have d1 : decide ((L.length : Int) < (M.length : Int)) = true := decide_eq_true (by omega)
            have d2 : (L.length : Int) < (M.length : Int) := by omega
            rw [hp]
            go_enter Tryd.func17, Tryd.ntmps17
            go_wp2_with (first
              | (go_at_call 8; have h9 := T1; clear h9; refine (rsplit_any s _ hs).mono ?_; rintro e u ⟨v, rfl, ow, bel⟩; rw [h1]; rw [hxs] at ow; have V1 : Hid (Vw u v xs) := ow.vw; have HB1 : Hid (Below w.heap.size w u) := bel; clear ow bel T1)
              | (go_at_call 8; refine (rsplit_any t _ ht).mono ?_; rintro e u2 ⟨v2, rfl, ow, bel⟩; rw [h2]; rw [hys] at ow; have V2 : Hid (Vw u2 v2 ys) := ow.vw; have HB2 : Hid (Below u.heap.size u u2) := bel; have V3 : Hid (Vw u2 v xs) := Vw.below V1.out bel; clear ow bel V1)
              | (go_at_call 32; have h9 := T2; clear h9; refine (trimmed_any _ xs _ V3.out).mono ?_; rintro e u3 ⟨v3, rfl, vw, hu⟩; rw [hu]; clear hu; rw [hL] at vw; obtain ⟨a, c, rfl, c1, c2, rd, hx⟩ := vw; have X1 : Hid (Vw u2 (.slice a L.length c) L) := ⟨a, c, rfl, c1, c2, rd, hx⟩; have R1 : Hid (RdS u2 a L.length L) := rd; clear T2 rd hx)
              | (go_at_call 32; refine (trimmed_any _ ys _ V2.out).mono ?_; rintro e u3 ⟨v4, rfl, vw, hu⟩; rw [hu]; clear hu; rw [hM] at vw; obtain ⟨a', c', rfl, c1', c2', rd, hx⟩ := vw; have X2 : Hid (Vw u2 (.slice a' M.length c') M) := ⟨a', c', rfl, c1', c2', rd, hx⟩; have R2 : Hid (RdS u2 a' M.length M) := rd; clear rd hx)
              | (go_at_call 33; have h9 := T3; clear h9; refine (ups_any _ L _ X1.out).mono ?_; rintro e u3 ⟨rfl, hu⟩; rw [hu, hU1]; clear hu T3)
              | (go_at_call 33; refine (ups_any _ M _ X2.out).mono ?_; rintro e u3 ⟨rfl, hu⟩; rw [hu, hU2]; clear hu))
            go_ret2
            exact ⟨rfl, HB1.out.trans (HB2.out.mono HB1.out.size)⟩
          · have d1 : decide ((L.length : Int) < (M.length : Int)) = false := decide_eq_false (by omega)
            go_enter Tryd.func17, Tryd.ntmps17
            go_wp2_with (first
              | (go_at_call 8; have h9 := T1; clear h9; refine (rsplit_any s _ hs).mono ?_; rintro e u ⟨v, rfl, ow, bel⟩; rw [h1]; rw [hxs] at ow; have V1 : Hid (Vw u v xs) := ow.vw; have HB1 : Hid (Below w.heap.size w u) := bel; clear ow bel T1)
              | (go_at_call 8; refine (rsplit_any t _ ht).mono ?_; rintro e u2 ⟨v2, rfl, ow, bel⟩; rw [h2]; rw [hys] at ow; have V2 : Hid (Vw u2 v2 ys) := ow.vw; have HB2 : Hid (Below u.heap.size u u2) := bel; have V3 : Hid (Vw u2 v xs) := Vw.below V1.out bel; clear ow bel V1)
              | (go_at_call 32; have h9 := T2; clear h9; refine (trimmed_any _ xs _ V3.out).mono ?_; rintro e u3 ⟨v3, rfl, vw, hu⟩; rw [hu]; clear hu; rw [hL] at vw; obtain ⟨a, c, rfl, c1, c2, rd, hx⟩ := vw; have X1 : Hid (Vw u2 (.slice a L.length c) L) := ⟨a, c, rfl, c1, c2, rd, hx⟩; have R1 : Hid (RdS u2 a L.length L) := rd; clear T2 rd hx)
              | (go_at_call 32; refine (trimmed_any _ ys _ V2.out).mono ?_; rintro e u3 ⟨v4, rfl, vw, hu⟩; rw [hu]; clear hu; rw [hM] at vw; obtain ⟨a', c', rfl, c1', c2', rd, hx⟩ := vw; have X2 : Hid (Vw u2 (.slice a' M.length c') M) := ⟨a', c', rfl, c1', c2', rd, hx⟩; have R2 : Hid (RdS u2 a' M.length M) := rd; clear rd hx)
              | (go_at_call 33; have h9 := T3; clear h9; refine (ups_any _ L _ X1.out).mono ?_; rintro e u3 ⟨rfl, hu⟩; rw [hu, hU1]; clear hu T3)
              | (go_at_call 33; refine (ups_any _ M _ X2.out).mono ?_; rintro e u3 ⟨rfl, hu⟩; rw [hu, hU2]; clear hu))
            go_loopw [9] (fun i wr => ∃ k : Nat, k ≤ M.length ∧ i = .int .i64 k ∧ Below u2.heap.size u2 wr ∧ L.take k = M.take k) (fun i _ => M.length - (intOf i).toNat)
            case atStart => exact ⟨0, Nat.zero_le _, rfl, Below.refl _ _, rfl⟩
            case round =>
              obtain ⟨k, hk, rfl, bel, hall⟩ := hrel
              have H : Hid (L.take k = M.take k) := hall
              have hmm : M.length ≤ 9223372036854775807 := by unfold maxLen at c2'; omega
              have HB3 : Hid (Below u2.heap.size u2 wr) := bel
              clear hall X1 X2 V2 V3
              by_cases hlt : k < M.length
              · have e1 : decide ((k : Int) < (M.length : Int)) = true := decide_eq_true (by omega)
                have hltL : k < L.length := by omega
                cases a with
                | none => have := R1.out.nil rfl; omega
                | some x =>
                  cases a' with
                  | none => have := R2.out.nil rfl; omega
                  | some x' =>
                    have hc := (RdS.below R1.out bel).at hltL
                    have hc' := (RdS.below R2.out bel).at hlt
                    obtain ⟨y, hy⟩ : ∃ y, L[k] = y := ⟨_, rfl⟩
                    obtain ⟨y', hy'⟩ : ∃ y', M[k] = y' := ⟨_, rfl⟩
                    rw [hy] at hc
                    rw [hy'] at hc'
                    have HY : Hid (L[k] = y) := hy
                    have HY' : Hid (M[k] = y') := hy'
                    clear hy hy' bel
                    by_cases hyy : y = y'
                    · have f1 : (y.toList == y'.toList) = true := by rw [hyy]; simp
                      have f2 : (y.toList != y'.toList) = false := by rw [hyy]; simp
                      have HE : Hid (y = y') := hyy
                      clear hyy
                      go_wp2
                      go_quiet (fail)
                      go_wp2
                      refine ⟨⟨k + 1, by omega, by go_num, below_drewN HB3.out nq, ?_⟩, ?_⟩
                      · rw [List.take_succ_eq_append_getElem hltL, List.take_succ_eq_append_getElem hlt, H.out, HY.out, HY'.out, HE.out]
                      · simp [intOf]; omega
                    · have f0 : ¬ y.toList = y'.toList := fun h => hyy (toList_inj h)
                      have f1 : (y.toList == y'.toList) = false := by simp [f0]
                      have f2 : (y.toList != y'.toList) = true := by simp [f0]
                      have HP : Hid (preB M L = false) := decide_eq_false fun h => hyy (by
                        have h2 := congrArg (fun l => l[k]?) h
                        simp only [List.getElem?_take, if_pos hlt] at h2
                        rw [List.getElem?_eq_getElem hltL, List.getElem?_eq_getElem hlt, HY.out, HY'.out] at h2
                        injection h2)
                      clear hyy
                      go_wp2
                      go_quiet (fail)
                      go_wp2
                      go_ret2
                      refine ⟨by rw [HP.out]; rfl, ?_⟩
                      have b2 := HB1.out.trans (HB2.out.mono HB1.out.size)
                      exact b2.trans ((below_drewN HB3.out nq).mono b2.size)
              · obtain rfl : k = M.length := by omega
                have HP : Hid (preB M L = true) := decide_eq_true (by rw [H.out, List.take_length])
                go_wp2
                go_ret2
                refine ⟨by rw [HP.out]; rfl, ?_⟩
                have b2 := HB1.out.trans (HB2.out.mono HB1.out.size)
                exact b2.trans (HB3.out.mono b2.size)
    · have hE : wiE s t = spE t := by simp [wiE, h1, h2]
      have hB : wiB s t = false := by simp [wiB, hE, h2]
      obtain ⟨E, hE2⟩ : ∃ E, spE t = E := ⟨_, rfl⟩
      have he : (E == 0) = false := by rw [← hE2]; simpa using h2
      have he' : ¬ E = 0 := by rw [← hE2]; exact h2
      rw [hE, hB, hE2]
      clear hE hB h2
      have T1 : Hid True := trivial
      go_enter Tryd.func17, Tryd.ntmps17
      go_wp2_with (first
        | (go_at_call 8; have h9 := T1; clear h9; refine (rsplit_any s _ hs).mono ?_; rintro e u ⟨v, rfl, ow, bel⟩; rw [h1]; have HB1 : Hid (Below w.heap.size w u) := bel; clear ow bel T1)
        | (go_at_call 8; refine (rsplit_any t _ ht).mono ?_; rintro e u2 ⟨v2, rfl, ow, bel⟩; rw [hE2]; have HB2 : Hid (Below u.heap.size u u2) := bel; clear ow bel))
      go_ret2
      exact ⟨rfl, HB1.out.trans (HB2.out.mono HB1.out.size)⟩
  · have hE : wiE s t = spE s := by simp [wiE, h1]
    have hB : wiB s t = false := by simp [wiB, hE, h1]
    obtain ⟨E, hE2⟩ : ∃ E, spE s = E := ⟨_, rfl⟩
    have he : (E == 0) = false := by rw [← hE2]; simpa using h1
    have he' : ¬ E = 0 := by rw [← hE2]; exact h1
    rw [hE, hB, hE2]
    clear hE hB h1
    go_enter Tryd.func17, Tryd.ntmps17
    go_wp2_with (go_at_call 8; refine (rsplit_any s _ hs).mono ?_; rintro e u ⟨v, rfl, ow, bel⟩; rw [hE2]; have HB1 : Hid (Below w.heap.size w u) := bel; clear ow bel)
    go_ret2
    exact ⟨rfl, HB1.out⟩

theorem vw_take {w : World} {a : Option Addr} {c n : Nat} {xs : List ByteArray} (h : Vw w (.slice a xs.length c) xs) (hn : n ≤ xs.length) : Vw w (.slice a n c) (xs.take n) := by
  obtain ⟨a2, c2, he, h1, h2, rd, hx⟩ := h
  cases he
  have hl : (xs.take n).length = n := List.length_take_of_le hn
  refine ⟨a, c, by rw [hl], by omega, h2, ⟨rfl, fun h => ?_, fun x hx j u hj => ?_⟩, hx⟩
  · have := rd.nil h; rw [hl]; omega
  · rw [List.getElem?_take] at hj
    split at hj
    · exact rd.cell x hx j u hj
    · cases hj

set_option maxHeartbeats 2000000 in
set_option maxRecDepth 100000 in
theorem within_any (s t : ByteArray) (w : World) (hs : s.size ≤ 9223372036854775807) (ht : t.size ≤ 9223372036854775807) :
    Calls Tryd.prog 18 #[.string s, .string t] w fun e w' => e = .returned (.tuple #[.bool (wiB s t), .int .i64 (wiE s t)]) ∧ Below w.heap.size w w' := by
  by_cases h1 : spE s = 0
  · by_cases h2 : spE t = 0
    · obtain ⟨L, hL⟩ : ∃ L, trim (spN s) = L := ⟨_, rfl⟩
      obtain ⟨M, hM⟩ : ∃ M, trim (spN t) = M := ⟨_, rfl⟩
      have hE : wiE s t = if L.any upB || M.any upB then 160 else 0 := by simp [wiE, h1, h2, hL, hM]
      have hB : wiB s t = (decide (wiE s t = 0) && preB M L) := by simp [wiB, hL, hM]
      have HE : Hid (wiE s t = if L.any upB || M.any upB then 160 else 0) := hE
      have HB : Hid (wiB s t = (decide (wiE s t = 0) && preB M L)) := hB
      clear hE hB
      have T1 : Hid True := trivial
      have T3 : Hid True := trivial
      by_cases kml : M.length ≤ L.length
      · have kle : ∀ {c : Nat}, L.length ≤ c → M.length ≤ c := fun h => Nat.le_trans kml h
        have d1 : decide ((M.length : Int) ≤ (L.length : Int)) = true := decide_eq_true (by omega)
        cases hU1 : L.any upB with
        | true =>
          have hv : wiE s t = 160 := by rw [HE.out, hU1]; rfl
          have hb : wiB s t = false := by rw [HB.out, hv]; rfl
          rw [hv, hb]
          clear HE HB hv hb
          have hU2 : M.any upB = M.any upB := rfl
          go_enter Tryd.func18, Tryd.ntmps18
          go_wp2_with (first
            | (go_at_call 34; have h9 := T1; clear h9; refine (cleaned_any s _ hs).mono ?_; rintro e u ⟨v, rfl, vw, bel⟩; rw [h1]; rw [hL] at vw; have V1 : Hid (Vw u v L) := vw; have HB1 : Hid (Below w.heap.size w u) := bel; clear vw bel T1)
            | (go_at_call 34; refine (cleaned_any t _ ht).mono ?_; rintro e u2 ⟨v2, rfl, vw, bel⟩; rw [h2]; rw [hM] at vw; obtain ⟨a', c', rfl, c1', c2', rd, hx⟩ := vw; have X2 : Hid (Vw u2 (.slice a' M.length c') M) := ⟨a', c', rfl, c1', c2', rd, hx⟩; have HB2 : Hid (Below u.heap.size u u2) := bel; have V3 : Hid (Vw u2 v L) := Vw.below V1.out bel; obtain ⟨a, c, rfl, c1, c2, rd2, hx2⟩ := V3.out; have X1 : Hid (Vw u2 (.slice a L.length c) L) := ⟨a, c, rfl, c1, c2, rd2, hx2⟩; clear rd hx rd2 hx2 bel V1 V3; have k1 : M.length ≤ c := kle c1)
            | (go_at_call 35; have h9 := T3; clear h9; refine (has_up _ L _ X1.out).mono ?_; rintro e u3 ⟨rfl, hu⟩; rw [hu, hU1]; clear hu T3)
            | (go_at_call 35; refine (has_up _ M _ X2.out).mono ?_; rintro e u3 ⟨rfl, hu⟩; rw [hu, hU2]; clear hu)
            | (go_at_call 36; refine (same_slices _ _ M (L.take M.length) _ X2.out ?_ ?_).mono ?_; (exact vw_take X1.out kml); (exact (List.length_take_of_le kml).symm); rintro e u3 ⟨rfl, q, hu⟩; rw [hu]; clear hu))
          go_ret2
          exact ⟨rfl, HB1.out.trans (HB2.out.mono HB1.out.size)⟩
        | false =>
          cases hU2 : M.any upB with
          | true =>
            have hv : wiE s t = 160 := by rw [HE.out, hU1, hU2]; rfl
            have hb : wiB s t = false := by rw [HB.out, hv]; rfl
            rw [hv, hb]
            clear HE HB hv hb
            go_enter Tryd.func18, Tryd.ntmps18
            go_wp2_with (first
              | (go_at_call 34; have h9 := T1; clear h9; refine (cleaned_any s _ hs).mono ?_; rintro e u ⟨v, rfl, vw, bel⟩; rw [h1]; rw [hL] at vw; have V1 : Hid (Vw u v L) := vw; have HB1 : Hid (Below w.heap.size w u) := bel; clear vw bel T1)
              | (go_at_call 34; refine (cleaned_any t _ ht).mono ?_; rintro e u2 ⟨v2, rfl, vw, bel⟩; rw [h2]; rw [hM] at vw; obtain ⟨a', c', rfl, c1', c2', rd, hx⟩ := vw; have X2 : Hid (Vw u2 (.slice a' M.length c') M) := ⟨a', c', rfl, c1', c2', rd, hx⟩; have HB2 : Hid (Below u.heap.size u u2) := bel; have V3 : Hid (Vw u2 v L) := Vw.below V1.out bel; obtain ⟨a, c, rfl, c1, c2, rd2, hx2⟩ := V3.out; have X1 : Hid (Vw u2 (.slice a L.length c) L) := ⟨a, c, rfl, c1, c2, rd2, hx2⟩; clear rd hx rd2 hx2 bel V1 V3; have k1 : M.length ≤ c := kle c1)
              | (go_at_call 35; have h9 := T3; clear h9; refine (has_up _ L _ X1.out).mono ?_; rintro e u3 ⟨rfl, hu⟩; rw [hu, hU1]; clear hu T3)
              | (go_at_call 35; refine (has_up _ M _ X2.out).mono ?_; rintro e u3 ⟨rfl, hu⟩; rw [hu, hU2]; clear hu)
              | (go_at_call 36; refine (same_slices _ _ M (L.take M.length) _ X2.out ?_ ?_).mono ?_; (exact vw_take X1.out kml); (exact (List.length_take_of_le kml).symm); rintro e u3 ⟨rfl, q, hu⟩; rw [hu]; clear hu))
            go_ret2
            exact ⟨rfl, HB1.out.trans (HB2.out.mono HB1.out.size)⟩
          | false =>
            have hv : wiE s t = 0 := by rw [HE.out, hU1, hU2]; rfl
            have hb : wiB s t = decide (M = L.take M.length) := by rw [HB.out, hv]; simp only [preB]; rw [Bool.eq_iff_iff]; simp [eq_comm]
            rw [hv, hb]
            clear HE HB hv hb
            go_enter Tryd.func18, Tryd.ntmps18
            go_wp2_with (first
              | (go_at_call 34; have h9 := T1; clear h9; refine (cleaned_any s _ hs).mono ?_; rintro e u ⟨v, rfl, vw, bel⟩; rw [h1]; rw [hL] at vw; have V1 : Hid (Vw u v L) := vw; have HB1 : Hid (Below w.heap.size w u) := bel; clear vw bel T1)
              | (go_at_call 34; refine (cleaned_any t _ ht).mono ?_; rintro e u2 ⟨v2, rfl, vw, bel⟩; rw [h2]; rw [hM] at vw; obtain ⟨a', c', rfl, c1', c2', rd, hx⟩ := vw; have X2 : Hid (Vw u2 (.slice a' M.length c') M) := ⟨a', c', rfl, c1', c2', rd, hx⟩; have HB2 : Hid (Below u.heap.size u u2) := bel; have V3 : Hid (Vw u2 v L) := Vw.below V1.out bel; obtain ⟨a, c, rfl, c1, c2, rd2, hx2⟩ := V3.out; have X1 : Hid (Vw u2 (.slice a L.length c) L) := ⟨a, c, rfl, c1, c2, rd2, hx2⟩; clear rd hx rd2 hx2 bel V1 V3; have k1 : M.length ≤ c := kle c1)
              | (go_at_call 35; have h9 := T3; clear h9; refine (has_up _ L _ X1.out).mono ?_; rintro e u3 ⟨rfl, hu⟩; rw [hu, hU1]; clear hu T3)
              | (go_at_call 35; refine (has_up _ M _ X2.out).mono ?_; rintro e u3 ⟨rfl, hu⟩; rw [hu, hU2]; clear hu)
              | (go_at_call 36; refine (same_slices _ _ M (L.take M.length) _ X2.out ?_ ?_).mono ?_; (exact vw_take X1.out kml); (exact (List.length_take_of_le kml).symm); rintro e u3 ⟨rfl, q, hu⟩; rw [hu]; clear hu))
            go_ret2
            refine ⟨rfl, ?_⟩
            have b2 := HB1.out.trans (HB2.out.mono HB1.out.size)
            exact below_drewN b2 q
      · have d1 : decide ((M.length : Int) ≤ (L.length : Int)) = false := decide_eq_false (by omega)
        have d2 : ¬ (M.length : Int) ≤ (L.length : Int) := by omega
        cases hU1 : L.any upB with
        | true =>
          have hv : wiE s t = 160 := by rw [HE.out, hU1]; rfl
          have hb : wiB s t = false := by rw [HB.out, hv]; rfl
          rw [hv, hb]
          clear HE HB hv hb
          have hU2 : M.any upB = M.any upB := rfl
          go_enter Tryd.func18, Tryd.ntmps18
          go_wp2_with (first
            | (go_at_call 34; have h9 := T1; clear h9; refine (cleaned_any s _ hs).mono ?_; rintro e u ⟨v, rfl, vw, bel⟩; rw [h1]; rw [hL] at vw; have V1 : Hid (Vw u v L) := vw; have HB1 : Hid (Below w.heap.size w u) := bel; clear vw bel T1)
            | (go_at_call 34; refine (cleaned_any t _ ht).mono ?_; rintro e u2 ⟨v2, rfl, vw, bel⟩; rw [h2]; rw [hM] at vw; obtain ⟨a', c', rfl, c1', c2', rd, hx⟩ := vw; have X2 : Hid (Vw u2 (.slice a' M.length c') M) := ⟨a', c', rfl, c1', c2', rd, hx⟩; have HB2 : Hid (Below u.heap.size u u2) := bel; have V3 : Hid (Vw u2 v L) := Vw.below V1.out bel; obtain ⟨a, c, rfl, c1, c2, rd2, hx2⟩ := V3.out; have X1 : Hid (Vw u2 (.slice a L.length c) L) := ⟨a, c, rfl, c1, c2, rd2, hx2⟩; clear rd hx rd2 hx2 bel V1 V3)
            | (go_at_call 35; have h9 := T3; clear h9; refine (has_up _ L _ X1.out).mono ?_; rintro e u3 ⟨rfl, hu⟩; rw [hu, hU1]; clear hu T3)
            | (go_at_call 35; refine (has_up _ M _ X2.out).mono ?_; rintro e u3 ⟨rfl, hu⟩; rw [hu, hU2]; clear hu))
          go_ret2
          exact ⟨rfl, HB1.out.trans (HB2.out.mono HB1.out.size)⟩
        | false =>
          cases hU2 : M.any upB with
          | true =>
            have hv : wiE s t = 160 := by rw [HE.out, hU1, hU2]; rfl
            have hb : wiB s t = false := by rw [HB.out, hv]; rfl
            rw [hv, hb]
            clear HE HB hv hb
            go_enter Tryd.func18, Tryd.ntmps18
            go_wp2_with (first
              | (go_at_call 34; have h9 := T1; clear h9; refine (cleaned_any s _ hs).mono ?_; rintro e u ⟨v, rfl, vw, bel⟩; rw [h1]; rw [hL] at vw; have V1 : Hid (Vw u v L) := vw; have HB1 : Hid (Below w.heap.size w u) := bel; clear vw bel T1)
              | (go_at_call 34; refine (cleaned_any t _ ht).mono ?_; rintro e u2 ⟨v2, rfl, vw, bel⟩; rw [h2]; rw [hM] at vw; obtain ⟨a', c', rfl, c1', c2', rd, hx⟩ := vw; have X2 : Hid (Vw u2 (.slice a' M.length c') M) := ⟨a', c', rfl, c1', c2', rd, hx⟩; have HB2 : Hid (Below u.heap.size u u2) := bel; have V3 : Hid (Vw u2 v L) := Vw.below V1.out bel; obtain ⟨a, c, rfl, c1, c2, rd2, hx2⟩ := V3.out; have X1 : Hid (Vw u2 (.slice a L.length c) L) := ⟨a, c, rfl, c1, c2, rd2, hx2⟩; clear rd hx rd2 hx2 bel V1 V3)
              | (go_at_call 35; have h9 := T3; clear h9; refine (has_up _ L _ X1.out).mono ?_; rintro e u3 ⟨rfl, hu⟩; rw [hu, hU1]; clear hu T3)
              | (go_at_call 35; refine (has_up _ M _ X2.out).mono ?_; rintro e u3 ⟨rfl, hu⟩; rw [hu, hU2]; clear hu))
            go_ret2
            exact ⟨rfl, HB1.out.trans (HB2.out.mono HB1.out.size)⟩
          | false =>
            have hv : wiE s t = 0 := by rw [HE.out, hU1, hU2]; rfl
            have hp : preB M L = false := decide_eq_false fun h => by have := congrArg List.length h; simp at this; omega
            have hb : wiB s t = false := by rw [HB.out, hv, hp]; rfl
            rw [hv, hb]
            clear HE HB hv hb hp
            go_enter Tryd.func18, Tryd.ntmps18
            go_wp2_with (first
              | (go_at_call 34; have h9 := T1; clear h9; refine (cleaned_any s _ hs).mono ?_; rintro e u ⟨v, rfl, vw, bel⟩; rw [h1]; rw [hL] at vw; have V1 : Hid (Vw u v L) := vw; have HB1 : Hid (Below w.heap.size w u) := bel; clear vw bel T1)
              | (go_at_call 34; refine (cleaned_any t _ ht).mono ?_; rintro e u2 ⟨v2, rfl, vw, bel⟩; rw [h2]; rw [hM] at vw; obtain ⟨a', c', rfl, c1', c2', rd, hx⟩ := vw; have X2 : Hid (Vw u2 (.slice a' M.length c') M) := ⟨a', c', rfl, c1', c2', rd, hx⟩; have HB2 : Hid (Below u.heap.size u u2) := bel; have V3 : Hid (Vw u2 v L) := Vw.below V1.out bel; obtain ⟨a, c, rfl, c1, c2, rd2, hx2⟩ := V3.out; have X1 : Hid (Vw u2 (.slice a L.length c) L) := ⟨a, c, rfl, c1, c2, rd2, hx2⟩; clear rd hx rd2 hx2 bel V1 V3)
              | (go_at_call 35; have h9 := T3; clear h9; refine (has_up _ L _ X1.out).mono ?_; rintro e u3 ⟨rfl, hu⟩; rw [hu, hU1]; clear hu T3)
              | (go_at_call 35; refine (has_up _ M _ X2.out).mono ?_; rintro e u3 ⟨rfl, hu⟩; rw [hu, hU2]; clear hu))
            go_ret2
            exact ⟨rfl, HB1.out.trans (HB2.out.mono HB1.out.size)⟩
    · have hE : wiE s t = spE t := by simp [wiE, h1, h2]
      have hB : wiB s t = false := by simp [wiB, hE, h2]
      obtain ⟨E, hE2⟩ : ∃ E, spE t = E := ⟨_, rfl⟩
      have he : (E == 0) = false := by rw [← hE2]; simpa using h2
      have he' : ¬ E = 0 := by rw [← hE2]; exact h2
      rw [hE, hB, hE2]
      clear hE hB h2
      have T1 : Hid True := trivial
      go_enter Tryd.func18, Tryd.ntmps18
      go_wp2_with (first
        | (go_at_call 34; have h9 := T1; clear h9; refine (cleaned_any s _ hs).mono ?_; rintro e u ⟨v, rfl, ow, bel⟩; rw [h1]; have HB1 : Hid (Below w.heap.size w u) := bel; clear ow bel T1)
        | (go_at_call 34; refine (cleaned_any t _ ht).mono ?_; rintro e u2 ⟨v2, rfl, ow, bel⟩; rw [hE2]; have HB2 : Hid (Below u.heap.size u u2) := bel; clear ow bel))
      go_ret2
      exact ⟨rfl, HB1.out.trans (HB2.out.mono HB1.out.size)⟩
  · have hE : wiE s t = spE s := by simp [wiE, h1]
    have hB : wiB s t = false := by simp [wiB, hE, h1]
    obtain ⟨E, hE2⟩ : ∃ E, spE s = E := ⟨_, rfl⟩
    have he : (E == 0) = false := by rw [← hE2]; simpa using h1
    have he' : ¬ E = 0 := by rw [← hE2]; exact h1
    rw [hE, hB, hE2]
    clear hE hB h1
    go_enter Tryd.func18, Tryd.ntmps18
    go_wp2_with (go_at_call 34; refine (cleaned_any s _ hs).mono ?_; rintro e u ⟨v, rfl, ow, bel⟩; rw [hE2]; have HB1 : Hid (Below w.heap.size w u) := bel; clear ow bel)
    go_ret2
    exact ⟨rfl, HB1.out⟩

set_option maxHeartbeats 2000000 in
set_option maxRecDepth 100000 in
theorem withins_walk (s t : ByteArray) (w : World) (hs : s.size ≤ 140737488351232) (ht : t.size ≤ 140737488351232) :
    Calls Tryd.prog 5 #[.string s, .string t] w fun e w' => e = .returned (.bool true) ∧ Below w.heap.size w w' := by
  have hs' : s.size ≤ 9223372036854775807 := by omega
  have ht' : t.size ≤ 9223372036854775807 := by omega
  obtain ⟨B, hB⟩ : ∃ B, wiB s t = B := ⟨_, rfl⟩
  obtain ⟨E, hE⟩ : ∃ E, wiE s t = E := ⟨_, rfl⟩
  go_enter Tryd.func5, Tryd.ntmps5
  go_wp2_with (first
    | (go_at_call 17; refine (rwithin_any _ _ _ hs' ht').mono ?_; rintro e u ⟨rfl, bel⟩; rw [hB, hE]; have HB1 : Hid (Below w.heap.size w u) := bel; clear bel)
    | (go_at_call 18; refine (within_any _ _ _ hs' ht').mono ?_; rintro e u2 ⟨rfl, bel⟩; rw [hB, hE]; have HB2 : Hid (Below u.heap.size u u2) := bel; clear bel))
  go_ret
  exact ⟨ret_bool (by simp), HB1.out.trans (HB2.out.mono HB1.out.size)⟩
end Go.Proofs.YtmbdacdgbmpedaaDoor
