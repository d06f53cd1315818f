/-
  SEAT YteefekhlbillfaaDoor: rows of bytes held against one another.
-/
import Derived.Test.YteefekhlbillfaaDoorE
namespace Go.Proofs.YteefekhlbillfaaDoor
open Go.RowKit
set_option linter.unusedVariables false

theorem byte_inj {a b : Int} (ha : 0 ≤ a ∧ a ≤ 255) (hb : 0 ≤ b ∧ b ≤ 255) (h : UInt8.ofNat a.toNat = UInt8.ofNat b.toNat) : a = b := by
  have h1 := congrArg UInt8.toNat h
  simp only [UInt8.toNat_ofNat'] at h1
  omega
theorem str_inj {xs ys : List Int} (hx : ∀ x ∈ xs, 0 ≤ x ∧ x ≤ 255) (hy : ∀ x ∈ ys, 0 ≤ x ∧ x ≤ 255) (h : strOfNums xs = strOfNums ys) : xs = ys := by
  have h1 := congrArg (fun s => s.data.toList) h
  simp only [strOfNums_data] at h1
  clear h
  induction xs generalizing ys with
  | nil => cases ys with
    | nil => rfl
    | cons y ys => simp at h1
  | cons x xs ih => cases ys with
    | nil => simp at h1
    | cons y ys =>
      simp only [List.map_cons, List.cons.injEq] at h1
      rw [byte_inj (hx x (by simp)) (hy y (by simp)) h1.1, ih (fun z hz => hx z (by simp [hz])) (fun z hz => hy z (by simp [hz])) h1.2]

theorem str_eq {xs ys : List Int} (hx : ∀ x ∈ xs, 0 ≤ x ∧ x ≤ 255) (hy : ∀ x ∈ ys, 0 ≤ x ∧ x ≤ 255) : ((strOfNums xs).toList == (strOfNums ys).toList) = decide (xs = ys) := by
  by_cases h : xs = ys
  · subst h; simp
  · rw [decide_eq_false h]
    refine beq_false_of_ne fun e => h (str_inj hx hy (bytes_ext ?_))
    rw [← Lib.toList_data, ← Lib.toList_data]; exact e

theorem equal_any (a a' : Option Addr) (n n' c c' : Nat) (xs ys : List Int) (w : World) (h : Reads w a n xs) (h' : Reads w a' n' ys) :
    Calls Tryd.prog 46 #[.slice a n c, .slice a' n' c'] w fun e w' => e = .returned (.bool (decide (xs = ys))) ∧ w' = w := by
  have e1 := conv a n c xs w h
  have e2 := conv a' n' c' ys w h'
  have HE : Hid _ := str_eq h.2.1 h'.2.1
  clear h h'
  go_enter Tryd.func46, Tryd.ntmps46
  go_wp2
  go_ret
  refine ⟨?_, rfl⟩
  exact ret_bool HE.out

set_option maxHeartbeats 400000 in
set_option maxRecDepth 100000 in
theorem rsame_any (a a' : Option Addr) (n c c' : Nat) (xs ys : List Int) (w : World) (hn : n ≤ 140737488355000) (h : Reads w a n xs) (h' : Reads w a' n ys) :
    Calls Tryd.prog 30 #[.slice a n c, .slice a' n c'] w fun e w' => e = .returned (.bool (decide (xs = ys))) ∧ ∃ k, w' = w.drewN k := by
  have hlx := h.1
  have hly := h'.1
  go_enter Tryd.func30, Tryd.ntmps30
  go_wp2
  go_loopw [5] (fun i wr => ∃ k j : Nat, k ≤ n ∧ i = .int .i64 k ∧ Hid (xs.take k = ys.take k) ∧ wr = w.drewN j)
    (fun i _ => n - (intOf i).toNat)
  case atStart => exact ⟨0, 0, Nat.zero_le _, rfl, by simp [Hid], rfl⟩
  case round =>
    obtain ⟨k, j, hk, rfl, HT, rfl⟩ := hrel
    by_cases hlt : k < n
    · obtain ⟨b, off, rfl, hb, hcell⟩ := h.pos (by omega)
      obtain ⟨b', off', rfl, hb', hcell'⟩ := h'.pos (by omega)
      obtain ⟨z, hz⟩ : ∃ z, z = xs.getD k 0 := ⟨_, rfl⟩
      obtain ⟨z', hz'⟩ : ∃ z', z' = ys.getD k 0 := ⟨_, rfl⟩
      have hcx : w.cell? ⟨b, off + k, none⟩ = some (.int .u8 z) := by rw [hz]; exact hcell k hlt
      have hcy : w.cell? ⟨b', off' + k, none⟩ = some (.int .u8 z') := by rw [hz']; exact hcell' k hlt
      have i1 : (k : Int) < (n : Int) := by omega
      have hd1 : decide ((k : Int) < (n : Int)) = true := decide_eq_true i1
      have ex : xs[k]'(by omega) = z := by rw [hz, List.getD_eq_getElem?_getD, List.getElem?_eq_getElem (by omega)]; rfl
      have ey : ys[k]'(by omega) = z' := by rw [hz', List.getD_eq_getElem?_getD, List.getElem?_eq_getElem (by omega)]; rfl
      by_cases he : z = z'
      · have HT2 : Hid (xs.take (k + 1) = ys.take (k + 1)) := by
          unfold Hid
          rw [List.take_succ_eq_append_getElem (by omega), List.take_succ_eq_append_getElem (by omega), HT.out, ex, ey, he]
        subst he
        clear hcell hcell' hz hz' ex ey h h' hlx hly HT
        go_wp2
        go_quiet (fail)
        go_wp2
        go_roundw
        case rel => exact ⟨k + 1, j + nq, by omega, by go_num, HT2, rfl⟩
        case measure => simp [intOf]; omega
      · have hne : xs ≠ ys := fun e => he (by rw [← ex, ← ey]; subst e; rfl)
        have h1 : (z == z') = false := by simpa using he
        have HB : Hid (decide (xs = ys) = false) := decide_eq_false hne
        clear hcell hcell' hz hz' ex ey h h' hlx hly HT hne he
        go_wp2
        go_quiet (fail)
        go_wp2
        go_ret
        exact ⟨by rw [HB.out]; rfl, j + nq, by rw [World.drewN_drewN]⟩
    · have hkl : k = n := by omega
      subst hkl
      have ht := HT.out
      rw [List.take_of_length_le (by omega), List.take_of_length_le (by omega)] at ht
      have HB : Hid (decide (xs = ys) = true) := decide_eq_true ht
      clear ht
      go_wp2
      go_ret
      exact ⟨by rw [HB.out]; rfl, j, rfl⟩

end Go.Proofs.YteefekhlbillfaaDoor
