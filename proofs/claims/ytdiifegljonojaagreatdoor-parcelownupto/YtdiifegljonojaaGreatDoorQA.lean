/-
  SEAT YtdiifegljonojaaGreatDoor: small functions; the reference's names.
-/
import Derived.Test.YtdiifegljonojaaGreatDoorQBase
import Derived.Laws.AppendOwn
import Derived.Deep.AppendLies
import Derived.Deep.LoopGhost
import Derived.OwnWalk
namespace Go.Proofs.YtdiifegljonojaaGreatDoor.Pt
open Go.RowKit
set_option linter.unusedVariables false

theorem toList_data (x : ByteArray) : x.toList = x.data.toList := Go.ByteArray.toList_eq x
theorem noName_any (x : ByteArray) (w : World) : Calls Tryz.prog 63 #[.string x] w fun e w' => e = .returned (.bool (noB x)) ∧ w' = w := by
  by_cases h : x.toList = []
  · go_enter Tryz.func63, Tryz.ntmps63
    go_wp2
    go_ret
    exact ⟨ret_bool (by rw [toList_data] at h; simp [noB, h]), rfl⟩
  · go_enter Tryz.func63, Tryz.ntmps63
    go_wp2
    go_ret
    refine ⟨ret_bool ?_, rfl⟩
    rw [toList_data] at *
    unfold noB
    rw [Bool.eq_iff_iff]
    simp

theorem tooLong_any (x : ByteArray) (w : World) : Calls Tryz.prog 65 #[.string x] w fun e w' => e = .returned (.bool (longB x)) ∧ w' = w := by
  go_enter Tryz.func65, Tryz.ntmps65
  go_wp2
  go_ret
  exact ⟨ret_bool (by unfold longB; rw [decide_eq_decide]; omega), rfl⟩

theorem byte_data (s : ByteArray) (i : Nat) (h : i < s.size) : s.data.toList[i]? = some s[i] := by
  rw [List.getElem?_eq_getElem (by rw [← Lib.size_eq]; exact h)]
  simp [ByteArray.getElem_eq_getElem_data]

set_option maxHeartbeats 1000000 in
theorem zero_any (s : ByteArray) (w : World) (hs : s.size ≤ 9223372036854775807) : Calls Tryz.prog 108 #[.string s] w fun e w' => e = .returned (.bool (zeroB s)) ∧ w' = w := by
  go_enter Tryz.func108, Tryz.ntmps108
  go_wp2
  go_loopw [3] (fun i wr => ∃ k : Nat, k ≤ s.size ∧ i = .int .i64 k ∧ wr = w ∧ (∀ j, j < k → s[j]! ≠ 0)) (fun i _ => s.size - (intOf i).toNat)
  case atStart => exact ⟨0, Nat.zero_le _, rfl, rfl, fun j hj => absurd hj (Nat.not_lt_zero _)⟩
  case round =>
    obtain ⟨k, hk, rfl, rfl, hall⟩ := hrel
    have H : Hid (∀ j, j < k → s[j]! ≠ 0) := hall
    clear hall
    by_cases hlt : k < s.size
    · have d1 : decide ((k : Int) < (s.size : Int)) = true := decide_eq_true (by omega)
      obtain ⟨x, hx⟩ : ∃ x : Nat, s[k].toNat = x := ⟨_, rfl⟩
      have hp : s[k]! = s[k] := getElem!_pos s k hlt
      have hm := byte_nat s k hlt
      by_cases x0 : x = 0
      · have hb : s[k]! = 0 := UInt8.toNat_inj.1 (by rw [hp, hx, x0]; rfl)
        rw [hb] at hm
        have HV : Hid (zeroB s = true) := decide_eq_true hm
        subst x0
        clear hm hb hp
        go_wp2
        go_ret
        exact ⟨ret_bool HV.out.symm, rfl⟩
      have e0 : ((x : Int) == 0) = false := by simp [x0]
      have HP : Hid (s[k]! = s[k]) := hp
      clear hm hp
      go_wp2
      go_roundw
      case rel =>
        refine ⟨k + 1, by omega, by go_num, by simp, fun j hj => ?_⟩
        by_cases hjk : j < k
        · exact H.out j hjk
        · obtain rfl : j = k := by omega
          exact fun h => x0 (by rw [← hx, ← HP.out, h]; rfl)
      case measure => simp [intOf]; omega
    · obtain rfl : k = s.size := by omega
      have HV : Hid (zeroB s = false) := by
        refine decide_eq_false fun h => ?_
        obtain ⟨j, hj, hc⟩ := List.mem_iff_getElem.1 h
        have hj' : j < s.size := by rw [Lib.size_eq]; exact hj
        have := H.out j hj'
        rw [getElem!_pos s j hj'] at this
        exact this (by simpa [ByteArray.getElem_eq_getElem_data] using hc)
      go_wp2
      go_ret
      exact ⟨ret_bool HV.out.symm, rfl⟩

/-- A slice of texts. -/
structure RdS (w : World) (a : Option Addr) (n : Nat) (xs : List ByteArray) : Prop where
  len : xs.length = n
  nil : a = none → n = 0
  cell : ∀ x, a = some x → ∀ j u, xs[j]? = some u → w.cell? (x.add j) = some (.string u)
/-- A slice of texts of the call's own. -/
def Ow (w : World) (B : Nat) (v : Value) (xs : List ByteArray) : Prop := w.ownsRow B 9 1 v xs.length (xs.map Value.string)

theorem info9 : (Tryz.prog.info? 9).map (fun i => (i.zero, i.size, i.bytes)) = some (some (.string ByteArray.empty), 1, 16) := by kernel_rfl
theorem ow_nil (w : World) (B : Nat) : Ow w B (.slice none 0 0) [] := ⟨rfl, Or.inl ⟨rfl, rfl⟩⟩
theorem add_zero (b o j : Nat) : (⟨b, o, none⟩ : Addr).add j = ⟨b, o + j, none⟩ := by unfold Addr.add; split <;> simp_all
theorem Ow.rd {w : World} {B : Nat} {v : Value} {xs : List ByteArray} (h : Ow w B v xs) : ∃ a c, v = .slice a xs.length c ∧ xs.length ≤ c ∧ c ≤ maxLen ∧ RdS w a xs.length xs := by
  rcases h.2 with ⟨h1, h2⟩ | ⟨g, cap, cur, hv, hb, hg, hnc, hcm, hsz, ht⟩
  · exact ⟨none, 0, by rw [h1, h2], by omega, by simp [maxLen], rfl, fun _ => h2, fun x hx => by cases hx⟩
  · refine ⟨some ⟨g, 0, none⟩, cap, hv, hnc, hcm, rfl, (fun h => by cases h), fun x hx j u hj => ?_⟩
    cases hx
    have hj' : j < xs.length := (List.getElem?_eq_some_iff.1 hj).1
    have e1 : (cur.toList.take (xs.length * 1))[j]? = (xs.map Value.string)[j]? := by rw [ht]
    rw [List.getElem?_take, if_pos (by omega), Array.getElem?_toList, List.getElem?_map, hj] at e1
    rw [add_zero, cell_of_row w g (0 + j) cur 9 (0, 0) hg, Nat.zero_add, e1]
    rfl
theorem Ow.below {w w' : World} {B : Nat} {v : Value} {xs : List ByteArray} (h : Ow w B v xs) (hb : Below w.heap.size w w') : Ow w' B v xs := by
  refine ⟨h.1, ?_⟩
  rcases h.2 with h1 | ⟨g, cap, cur, hv, hB, hg, hr⟩
  · exact Or.inl h1
  · refine Or.inr ⟨g, cap, cur, hv, hB, ?_, hr⟩
    have hlt : g < w.heap.size := by
      rcases Nat.lt_or_ge g w.heap.size with h' | h'
      · exact h'
      · rw [Array.getElem?_eq_none h'] at hg; cases hg
    rw [hb.block g hlt, hg]
theorem Ow.lower {w : World} {B B' : Nat} {v : Value} {xs : List ByteArray} (h : Ow w B v xs) (hb : B' ≤ B) : Ow w B' v xs := by
  refine ⟨h.1, ?_⟩
  rcases h.2 with h1 | ⟨g, cap, cur, hv, hB, hr⟩
  · exact Or.inl h1
  · exact Or.inr ⟨g, cap, cur, hv, by omega, hr⟩
theorem Ow.at {w : World} {B : Nat} {v : Value} {xs : List ByteArray} (h : Ow w B v xs) : ∀ k, v.ownBlock = some k → B ≤ k ∧ k < w.heap.size := by
  intro k hk
  rcases h.2 with ⟨h1, _⟩ | ⟨g, cap, cur, hv, hB, hg, _⟩
  · rw [h1] at hk; cases hk
  · rw [hv] at hk
    injection hk with hk
    change g = k at hk
    subst hk
    refine ⟨hB, ?_⟩
    rcases Nat.lt_or_ge g w.heap.size with h' | h'
    · exact h'
    · rw [Array.getElem?_eq_none h'] at hg; cases hg
theorem RdS.below {w w' : World} {a : Option Addr} {n : Nat} {xs : List ByteArray} (h : RdS w a n xs) (hb : Below w.heap.size w w') : RdS w' a n xs :=
  ⟨h.len, h.nil, fun x hx j u hj => by
    have hc := h.cell x hx j u hj
    rw [hb.cell (World.block_lt_of_cell? _ _ hc)]; exact hc⟩
theorem RdS.at {w : World} {x : Addr} {n : Nat} {xs : List ByteArray} (h : RdS w (some x) n xs) {k : Nat} (hk : k < n) : w.cell? (x.add k) = some (.string (xs[k]'(by rw [h.len]; exact hk))) :=
  h.cell x rfl k _ (List.getElem?_eq_getElem (by rw [h.len]; exact hk))
theorem RdS.tail {w : World} {b o n : Nat} {y : ByteArray} {xs : List ByteArray} (h : RdS w (some ⟨b, o, none⟩) (n + 1) (y :: xs)) : RdS w (some ⟨b, o + 1, none⟩) n xs :=
  ⟨by have := h.len; simpa using this, (fun h => by cases h), fun x hx j u hj => by
    cases hx
    have := h.cell _ rfl (j + 1) u (by simpa using hj)
    rw [add_zero] at this ⊢
    rw [← this]
    congr 2; omega⟩

/-- What is still to come of a path's names, behind a word that is under way. -/
def restN (wd : List UInt8) (s : List UInt8) : List ByteArray := ((pp wd s).filter fun x => !noL x).map byteOf
theorem restN_nil (wd : List UInt8) : restN wd [] = if noL wd then [] else [byteOf wd] := by
  unfold restN pp
  cases h : noL wd <;> simp [h]
theorem restN_slash (wd r : List UInt8) : restN wd (47 :: r) = (if noL wd then [] else [byteOf wd]) ++ restN [] r := by
  unfold restN
  rw [pp, if_pos rfl]
  cases h : noL wd <;> simp [h]
theorem restN_byte (wd r : List UInt8) (b : UInt8) (hb : b ≠ 47) : restN wd (b :: r) = restN (wd ++ [b]) r := by
  unfold restN
  rw [pp, if_neg hb]
theorem nm_rest (s : ByteArray) : nm s = restN [] s.data.toList := rfl
theorem drop_data (s : ByteArray) (k : Nat) (h : k < s.size) : s.data.toList.drop k = s[k] :: s.data.toList.drop (k + 1) := by
  have h2 : k < s.data.toList.length := by rw [← Lib.size_eq]; exact h
  rw [List.drop_eq_getElem_cons h2]
  simp [ByteArray.getElem_eq_getElem_data]

set_option maxHeartbeats 2000000 in
set_option maxRecDepth 100000 in
theorem parts_any (s : ByteArray) (w : World) (hs : s.size ≤ 1023) : Calls Tryz.prog 109 #[.string s] w fun e w' => ∃ v, e = .returned v ∧ Ow w' w.heap.size v (nm s) ∧ Below w.heap.size w w' := by
  obtain ⟨i0, hi, hz0, hz1, hz2⟩ := info_parts info9
  have hnl := nm_len s
  go_enter Tryz.func109, Tryz.ntmps109
  go_wp2
  go_loopw [3, 4, 5] (fun l word i wr => ∃ (L : List ByteArray) (wd : ByteArray) (k : Nat), Ow wr w.heap.size l L ∧ Below w.heap.size w wr ∧ word = .string wd ∧ i = .int .i64 k ∧ wd.size ≤ k ∧ ((k ≤ s.size ∧ L ++ restN wd.data.toList (s.data.toList.drop k) = nm s) ∨ (k = s.size + 1 ∧ L = nm s))) (fun _ _ i _ => s.size + 1 - (intOf i).toNat)
  case atStart => exact ⟨[], ByteArray.empty, 0, ow_nil _ _, Below.refl _ _, rfl, rfl, Nat.zero_le _, Or.inl ⟨Nat.zero_le _, rfl⟩⟩
  case round =>
    obtain ⟨L, wd, k, own, bel, rfl, rfl, hwd, hc⟩ := hrel
    have hL : L.length ≤ 1024 := by
      rcases hc with ⟨_, h⟩ | ⟨_, h⟩
      · have := congrArg List.length h; simp at this; omega
      · rw [h]; omega
    have HO : Hid (Ow wr w.heap.size u3 L) := own
    have HB : Hid (Below w.heap.size w wr) := bel
    have hsz := bel.size
    rcases hc with ⟨hk, hc⟩ | ⟨rfl, hc⟩
    · have HC : Hid (L ++ restN wd.data.toList (s.data.toList.drop k) = nm s) := hc
      clear hc own bel
      have d1 : decide ((k : Int) ≤ (s.size : Int)) = true := decide_eq_true (by omega)
      by_cases hx : ∃ x : UInt8, s.data.toList[k]? = some x ∧ x ≠ 47
      · obtain ⟨x, hx, hne⟩ := hx
        have hlt : k < s.size := by rw [Lib.size_eq]; exact (List.getElem?_eq_some_iff.1 hx).1
        have hb : s[k] = x := by rw [byte_data s k hlt] at hx; injection hx
        have d2 : decide ((k : Int) < (s.size : Int)) = true := decide_eq_true (by omega)
        obtain ⟨xn, hxn⟩ : ∃ xn : Nat, s[k].toNat = xn := ⟨_, rfl⟩
        have hx47 : xn ≠ 47 := fun h => hne (UInt8.toNat_inj.1 (by rw [← hb, hxn, h]; rfl))
        have d3 : ((xn : Int) != 47) = true := by simp; omega
        have HN : Hid (x ≠ 47) := hne
        have hd : s.data.toList.drop k = x :: s.data.toList.drop (k + 1) := by rw [drop_data s k hlt, hb]
        have e1 : (s.extract k (k + 1)).data.toList = [x] := by
          rw [Lib.extract_data]
          have : (s.data.toList.drop k).take 1 = [x] := by rw [hd]; rfl
          simpa using this
        have hsz2 : (s.extract k (k + 1)).size = 1 := by rw [Lib.size_eq, e1]; rfl
        have HE : Hid ((s.extract k (k + 1)).data.toList = [x]) := e1
        have HK : Hid (s.data.toList.drop k = x :: s.data.toList.drop (k + 1)) := hd
        have HS : Hid ((s.extract k (k + 1)).size = 1) := hsz2
        have hq : ¬ (9223372036854775807 < wd.size + (s.extract k (k + 1)).size) := by omega
        clear e1 hx hb hne hx47 hd hsz2
        go_wp2
        go_roundw
        case rel =>
          refine ⟨L, wd ++ s.extract k (k + 1), k + 1, HO.out, HB.out, by simp, by go_num, ?_, Or.inl ⟨by omega, ?_⟩⟩
          · rw [ByteArray.size_append, HS.out]; omega
          · have h := HC.out
            rw [HK.out, restN_byte _ _ _ HN.out] at h
            have e2 : (wd ++ s.extract k (k + 1)).data.toList = wd.data.toList ++ [x] := by rw [← HE.out, ByteArray.data_append, Array.toList_append]
            rw [e2]; exact h
        case measure => simp [intOf]; omega
      · have HX : Hid (¬ ∃ x : UInt8, s.data.toList[k]? = some x ∧ x ≠ 47) := hx
        clear hx
        have HR : Hid (restN wd.data.toList (s.data.toList.drop k) = (if noL wd.data.toList then [] else [wd]) ++ (if k < s.size then restN [] (s.data.toList.drop (k + 1)) else [])) := by
          have eb : byteOf wd.data.toList = wd := byteOf_data wd
          by_cases hlt : k < s.size
          · have h47 : s[k] = 47 := by
              by_cases h : s[k] = 47
              · exact h
              · exact absurd ⟨_, byte_data s k hlt, h⟩ HX.out
            show restN wd.data.toList (s.data.toList.drop k) = _
            rw [if_pos hlt, drop_data s k hlt, h47, restN_slash, eb]
          · show restN wd.data.toList (s.data.toList.drop k) = _
            have : s.data.toList.drop k = [] := List.drop_eq_nil_of_le (by rw [← Lib.size_eq]; omega)
            rw [if_neg hlt, this, restN_nil, eb, List.append_nil]
        have fin : ∀ L2, L2 = L ++ (if noL wd.data.toList then [] else [wd]) → (k + 1 ≤ s.size ∧ L2 ++ restN [] (s.data.toList.drop (k + 1)) = nm s) ∨ (k + 1 = s.size + 1 ∧ L2 = nm s) := by
          intro L2 h2
          have h := HC.out
          rw [HR.out, ← List.append_assoc, ← h2] at h
          by_cases hlt : k < s.size
          · rw [if_pos hlt] at h; exact Or.inl ⟨by omega, h⟩
          · rw [if_neg hlt, List.append_nil] at h; exact Or.inr ⟨by omega, h⟩
        have FIN : Hid (∀ L2, L2 = L ++ (if noL wd.data.toList then [] else [wd]) → (k + 1 ≤ s.size ∧ L2 ++ restN [] (s.data.toList.drop (k + 1)) = nm s) ∨ (k + 1 = s.size + 1 ∧ L2 = nm s)) := fin
        clear fin
        have hway : (k < s.size ∧ ∃ h : k < s.size, s[k].toNat = 47) ∨ k = s.size := by
          by_cases hlt : k < s.size
          · refine Or.inl ⟨hlt, hlt, ?_⟩
            by_cases h : s[k] = 47
            · rw [h]; rfl
            · exact absurd ⟨_, byte_data s k hlt, h⟩ HX.out
          · exact Or.inr (by omega)
        have OW : Hid ((wr.alloc (.cells #[.string wd] 9)).ownsRow w.heap.size 9 1 u3 L.length (L.map Value.string)) := World.ownsRow.alloc HO.out _
        have NB : Hid (∀ j u, ([.string wd] : List Value)[j]? = some u → (wr.alloc (.cells #[.string wd] 9)).cell? ((⟨wr.heap.size, 0, none⟩ : Addr).add j) = some u) := World.news_of_block (heap_alloc_new wr _)
        have hb1 : L.length + 1 ≤ maxLen := by simp [maxLen]; omega
        have hb2 : (L.length + 1) * 16 ≤ 140737488355328 := by omega
        have hb3 : w.heap.size ≤ (wr.alloc (.cells #[.string wd] 9)).heap.size := by simp; omega
        have hw : wd.toList = [] ∨ wd.toList = [46] ∨ (¬ wd.toList = [] ∧ ¬ wd.toList = [46]) := by
          by_cases h1 : wd.toList = []
          · exact Or.inl h1
          · by_cases h2 : wd.toList = [46]
            · exact Or.inr (Or.inl h2)
            · exact Or.inr (Or.inr ⟨h1, h2⟩)
        have hway2 : (decide ((k : Int) < (s.size : Int)) = true ∧ ∃ h : k < s.size, s[k].toNat = 47) ∨ (decide ((k : Int) < (s.size : Int)) = false ∧ ¬ k < s.size) := by
          rcases hway with ⟨hlt, h⟩ | hks
          · exact Or.inl ⟨decide_eq_true (by omega), h⟩
          · exact Or.inr ⟨decide_eq_false (by omega), by omega⟩
        clear hway
        rcases hw with hw | hw | ⟨hw, hw2⟩
        · have HW : Hid (noL wd.data.toList = true) := by rw [toList_data] at hw; show noL _ = true; rw [hw]; rfl
          rcases hway2 with ⟨d2, hlt, h47⟩ | ⟨d2, hge⟩
          all_goals
            go_wp2
            go_roundw
            case rel => exact ⟨L, ByteArray.empty, k + 1, HO.out, HB.out, rfl, by go_num, Nat.zero_le _, FIN.out L (by rw [HW.out]; simp)⟩
            case measure => simp [intOf]; omega
        · have HW : Hid (noL wd.data.toList = true) := by rw [toList_data] at hw; show noL _ = true; rw [hw]; rfl
          rcases hway2 with ⟨d2, hlt, h47⟩ | ⟨d2, hge⟩
          all_goals
            go_wp2
            go_roundw
            case rel => exact ⟨L, ByteArray.empty, k + 1, HO.out, HB.out, rfl, by go_num, Nat.zero_le _, FIN.out L (by rw [HW.out]; simp)⟩
            case measure => simp [intOf]; omega
        · have HW : Hid (noL wd.data.toList = false) := by rw [toList_data] at hw hw2; show noL _ = false; simp [noL, hw, hw2]
          have f1 : (wd.toList == []) = false := by simp [hw]
          have f2 : (wd.toList == [46]) = false := by simp [hw2]
          have f3 : wd.toList.isEmpty = false := by simp [hw]
          rcases hway2 with ⟨d2, hlt, h47⟩ | ⟨d2, hge⟩
          all_goals
            go_wp2_with (at_builtin; refine wpList_append_own _ rfl (.tmp 35) (.tmp 37) 50 rfl w.heap.size 9 i0 _ 1 16 Tryz.underlying50 hi hz0 hz1 hz2 rfl (by decide) _ _ _ rfl OW.out ⟨wr.heap.size, 0, none⟩ 1 1 [.string wd] rfl rfl NB.out (by simp [Value.oneCell']) hb1 hb2 hb3 ?_; intro v2 w2 own2 grow2 _)
            go_roundw
            case rel =>
              refine ⟨L ++ [wd], ByteArray.empty, k + 1, ?_, ?_, rfl, by go_num, Nat.zero_le _, FIN.out _ (by rw [HW.out]; simp)⟩
              · show World.ownsRow _ _ _ _ _ _ _
                simpa using own2
              · exact (HB.out.alloc HB.out.size _).grown grow2 (by simp; omega) (fun q hq => (HO.out.at q hq).1)
            case measure => simp [intOf]; omega
    · have d1 : decide (((s.size + 1 : Nat) : Int) ≤ (s.size : Int)) = false := decide_eq_false (by omega)
      have HC : Hid (L = nm s) := hc
      clear hc own bel
      go_wp2
      go_ret
      refine ⟨_, rfl, ?_, HB.out⟩
      rw [← HC.out]; exact HO.out
end Go.Proofs.YtdiifegljonojaaGreatDoor.Pt
