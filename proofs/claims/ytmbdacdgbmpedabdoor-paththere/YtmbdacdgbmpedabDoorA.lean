/-
  SEAT YtmbdacdgbmpedabDoor: small functions; the reference's names.
-/
import Derived.Test.YtmbdacdgbmpedabDoorBase
import Derived.Laws.AppendOwn
import Derived.Deep.AppendLies
import Derived.Deep.LoopGhost
import Derived.OwnWalk
namespace Go.Proofs.YtmbdacdgbmpedabDoor
open Go.RowKit
set_option linter.unusedVariables false

theorem toList_data (x : ByteArray) : x.toList = x.data.toList := Go.ByteArray.toList_eq x
theorem noName_any (x : ByteArray) (w : World) : Calls Tryd.prog 16 #[.string x] w fun e w' => e = .returned (.bool (noB x)) ∧ w' = w := by
  by_cases h : x.toList = []
  · go_enter Tryd.func16, Tryd.ntmps16
    go_wp2
    go_ret
    exact ⟨ret_bool (by rw [toList_data] at h; simp [noB, h]), rfl⟩
  · go_enter Tryd.func16, Tryd.ntmps16
    go_wp2
    go_ret
    refine ⟨ret_bool ?_, rfl⟩
    rw [toList_data] at *
    unfold noB
    rw [Bool.eq_iff_iff]
    simp

theorem tooLong_any (x : ByteArray) (w : World) : Calls Tryd.prog 17 #[.string x] w fun e w' => e = .returned (.bool (longB x)) ∧ w' = w := by
  go_enter Tryd.func17, Tryd.ntmps17
  go_wp2
  go_ret
  exact ⟨ret_bool (by unfold longB; rw [decide_eq_decide]; omega), rfl⟩

theorem byte_data (s : ByteArray) (i : Nat) (h : i < s.size) : s.data.toList[i]? = some s[i] := by
  rw [List.getElem?_eq_getElem (by rw [← Lib.size_eq]; exact h)]
  simp [ByteArray.getElem_eq_getElem_data]

/-- A slice of texts. -/
structure RdS (w : World) (a : Option Addr) (n : Nat) (xs : List ByteArray) : Prop where
  len : xs.length = n
  nil : a = none → n = 0
  cell : ∀ x, a = some x → ∀ j u, xs[j]? = some u → w.cell? (x.add j) = some (.string u)
/-- A slice of texts of the call's own. -/
def Ow (w : World) (B : Nat) (v : Value) (xs : List ByteArray) : Prop := w.ownsRow B 9 1 v xs.length (xs.map Value.string)

theorem info9 : (Tryd.prog.info? 9).map (fun i => (i.zero, i.size, i.bytes)) = some (some (.string ByteArray.empty), 1, 16) := by kernel_rfl
theorem ow_nil (w : World) (B : Nat) : Ow w B (.slice none 0 0) [] := ⟨rfl, Or.inl ⟨rfl, rfl⟩⟩
theorem add_zero (b o j : Nat) : (⟨b, o, none⟩ : Addr).add j = ⟨b, o + j, none⟩ := by unfold Addr.add; split <;> simp_all
theorem Ow.rd {w : World} {B : Nat} {v : Value} {xs : List ByteArray} (h : Ow w B v xs) : ∃ a c, v = .slice a xs.length c ∧ xs.length ≤ c ∧ c ≤ maxLen ∧ RdS w a xs.length xs := by
  rcases h.2 with ⟨h1, h2⟩ | ⟨g, cap, cur, hv, hb, hg, hnc, hcm, hsz, ht⟩
  · exact ⟨none, 0, by rw [h1, h2], by omega, by simp [maxLen], rfl, fun _ => h2, fun x hx => by cases hx⟩
  · refine ⟨some ⟨g, 0, none⟩, cap, hv, hnc, hcm, rfl, (fun h => by cases h), fun x hx j u hj => ?_⟩
    cases hx
    have hj' : j < xs.length := (List.getElem?_eq_some_iff.1 hj).1
    have e1 : (cur.toList.take (xs.length * 1))[j]? = (xs.map Value.string)[j]? := by rw [ht]
    rw [List.getElem?_take, if_pos (by omega), Array.getElem?_toList, List.getElem?_map, hj] at e1
    rw [add_zero, cell_of_row w g (0 + j) cur 9 (0, 0) hg, Nat.zero_add, e1]
    rfl
theorem Ow.below {w w' : World} {B : Nat} {v : Value} {xs : List ByteArray} (h : Ow w B v xs) (hb : Below w.heap.size w w') : Ow w' B v xs := by
  refine ⟨h.1, ?_⟩
  rcases h.2 with h1 | ⟨g, cap, cur, hv, hB, hg, hr⟩
  · exact Or.inl h1
  · refine Or.inr ⟨g, cap, cur, hv, hB, ?_, hr⟩
    have hlt : g < w.heap.size := by
      rcases Nat.lt_or_ge g w.heap.size with h' | h'
      · exact h'
      · rw [Array.getElem?_eq_none h'] at hg; cases hg
    rw [hb.block g hlt, hg]
theorem Ow.lower {w : World} {B B' : Nat} {v : Value} {xs : List ByteArray} (h : Ow w B v xs) (hb : B' ≤ B) : Ow w B' v xs := by
  refine ⟨h.1, ?_⟩
  rcases h.2 with h1 | ⟨g, cap, cur, hv, hB, hr⟩
  · exact Or.inl h1
  · exact Or.inr ⟨g, cap, cur, hv, by omega, hr⟩
theorem Ow.at {w : World} {B : Nat} {v : Value} {xs : List ByteArray} (h : Ow w B v xs) : ∀ k, v.ownBlock = some k → B ≤ k ∧ k < w.heap.size := by
  intro k hk
  rcases h.2 with ⟨h1, _⟩ | ⟨g, cap, cur, hv, hB, hg, _⟩
  · rw [h1] at hk; cases hk
  · rw [hv] at hk
    injection hk with hk
    change g = k at hk
    subst hk
    refine ⟨hB, ?_⟩
    rcases Nat.lt_or_ge g w.heap.size with h' | h'
    · exact h'
    · rw [Array.getElem?_eq_none h'] at hg; cases hg
theorem RdS.below {w w' : World} {a : Option Addr} {n : Nat} {xs : List ByteArray} (h : RdS w a n xs) (hb : Below w.heap.size w w') : RdS w' a n xs :=
  ⟨h.len, h.nil, fun x hx j u hj => by
    have hc := h.cell x hx j u hj
    rw [hb.cell (World.block_lt_of_cell? _ _ hc)]; exact hc⟩
theorem RdS.at {w : World} {x : Addr} {n : Nat} {xs : List ByteArray} (h : RdS w (some x) n xs) {k : Nat} (hk : k < n) : w.cell? (x.add k) = some (.string (xs[k]'(by rw [h.len]; exact hk))) :=
  h.cell x rfl k _ (List.getElem?_eq_getElem (by rw [h.len]; exact hk))
theorem RdS.tail {w : World} {b o n : Nat} {y : ByteArray} {xs : List ByteArray} (h : RdS w (some ⟨b, o, none⟩) (n + 1) (y :: xs)) : RdS w (some ⟨b, o + 1, none⟩) n xs :=
  ⟨by have := h.len; simpa using this, (fun h => by cases h), fun x hx j u hj => by
    cases hx
    have := h.cell _ rfl (j + 1) u (by simpa using hj)
    rw [add_zero] at this ⊢
    rw [← this]
    congr 2; omega⟩

/-- What is still to come of a path's names, behind a word that is under way. -/
def restN (wd : List UInt8) (s : List UInt8) : List ByteArray := ((pp wd s).filter fun x => !noL x).map byteOf
theorem restN_nil (wd : List UInt8) : restN wd [] = if noL wd then [] else [byteOf wd] := by
  unfold restN pp
  cases h : noL wd <;> simp [h]
theorem restN_slash (wd r : List UInt8) : restN wd (47 :: r) = (if noL wd then [] else [byteOf wd]) ++ restN [] r := by
  unfold restN
  rw [pp, if_pos rfl]
  cases h : noL wd <;> simp [h]
theorem restN_byte (wd r : List UInt8) (b : UInt8) (hb : b ≠ 47) : restN wd (b :: r) = restN (wd ++ [b]) r := by
  unfold restN
  rw [pp, if_neg hb]
theorem nm_rest (s : ByteArray) : nm s = restN [] s.data.toList := rfl
theorem drop_data (s : ByteArray) (k : Nat) (h : k < s.size) : s.data.toList.drop k = s[k] :: s.data.toList.drop (k + 1) := by
  have h2 : k < s.data.toList.length := by rw [← Lib.size_eq]; exact h
  rw [List.drop_eq_getElem_cons h2]
  simp [ByteArray.getElem_eq_getElem_data]

end Go.Proofs.YtmbdacdgbmpedabDoor
