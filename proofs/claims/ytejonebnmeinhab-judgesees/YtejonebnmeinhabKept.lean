/-
  SEAT Ytejonebnmeinhab: marksKept, traceKept.
-/
import Derived.Test.YtejonebnmeinhabFnG
namespace Go.Proofs.Ytejonebnmeinhab
open Go.RowKit
set_option linter.unusedVariables false

theorem bool_neq (b : Bool) : (b == b) = true := by cases b <;> rfl

set_option maxHeartbeats 1000000 in
theorem marksKept_any (B g c len cap : Nat) (a : Option Addr) (bs : List Bool) (w : World) (hl : len ≤ 140737488351232) (h : ReadsB w a len bs) (hc : len + 3 ≤ c) (own : w.ownsRow B 4 1 (.slice (some ⟨g, 0, none⟩) (len + 3) c) (len + 3) ((bs ++ [true, false, true]).map Value.bool)) :
    Calls Try.prog 28 #[.slice (some ⟨g, 0, none⟩) len c, .slice a len cap] w fun e w' => e = .returned (.bool true) ∧ ∃ k, w' = w.drewN k := by
  have hlen := h.1
  have hcell : ∀ i, i < len → w.cell? ⟨g, i, none⟩ = some (.bool (bs.getD i false)) := fun i hi => by
    rw [World.ownsRow.cellAt own i (by omega), List.getElem?_map, List.getElem?_append_left (by omega)]
    simp [List.getD_eq_getElem?_getD, List.getElem?_eq_getElem (show i < bs.length by omega)]
  have e0 : w.cell? ⟨g, len, none⟩ = some (.bool true) := by
    rw [World.ownsRow.cellAt own len (by omega), List.getElem?_map, List.getElem?_append_right (by omega), hlen]; simp
  have e1 : w.cell? ⟨g, len + 1, none⟩ = some (.bool false) := by
    rw [World.ownsRow.cellAt own (len + 1) (by omega), List.getElem?_map, List.getElem?_append_right (by omega), hlen]; simp
  have e2 : w.cell? ⟨g, len + 2, none⟩ = some (.bool true) := by
    rw [World.ownsRow.cellAt own (len + 2) (by omega), List.getElem?_map, List.getElem?_append_right (by omega), hlen]; simp
  have hc' : (len : Int) + 3 ≤ (c : Int) := by omega
  clear own
  go_enter Try.func28, Try.ntmps28
  go_wp2
  go_loopw [6] (fun i wr => ∃ k m : Nat, k ≤ len ∧ i = .int .i64 k ∧ wr = w.drewN m)
    (fun i _ => len - (intOf i).toNat)
  case atStart => exact ⟨0, 0, Nat.zero_le _, rfl, rfl⟩
  case round =>
    obtain ⟨k, m, hk, rfl, rfl⟩ := hrel
    by_cases hlt : k < len
    · obtain ⟨g', off, rfl, hg', hcell'⟩ := h.pos (by omega)
      obtain ⟨z, hz⟩ : ∃ z, z = bs.getD k false := ⟨_, rfl⟩
      have x1 := hcell k hlt
      have x2 := hcell' k hlt
      rw [← hz] at x1 x2
      have hb := bool_neq z
      have i1 : (k : Int) < (len : Int) := by omega
      have i2 : (k : Int) < (len : Int) + 3 := by omega
      clear hz hcell hcell'
      go_wp2
      go_quiet (fail)
      all_goals go_wp2
      all_goals go_roundw
      case rel => exact ⟨k + 1, _, by omega, by go_num, rfl⟩
      case measure => simp [intOf]; omega
    · have hkl : k = len := by omega
      subst hkl
      have i2 : (k : Int) < (k : Int) + 3 := by omega
      have i3 : (k : Int) + 1 < (k : Int) + 3 := by omega
      have i4 : (k : Int) + 2 < (k : Int) + 3 := by omega
      clear hcell
      go_wp2
      go_ret
      exact ⟨rfl, m, rfl⟩

set_option maxHeartbeats 1000000 in
theorem traceKept_any (B g c len cap : Nat) (a : Option Addr) (cs : List Cmd) (w : World) (hl : len * 32 ≤ 140737488351232) (h : ReadsC w a len cs) (hc : len + 2 ≤ c) (own : w.ownsRow B 73 4 (.slice (some ⟨g, 0, none⟩) (len + 2) c) (len + 2) (flat (cs ++ tail2))) :
    Calls Try.prog 29 #[.slice (some ⟨g, 0, none⟩) len c, .slice a len cap] w fun e w' => e = .returned (.bool true) ∧ ∃ k, w' = w.drewN k := by
  have hlen := h.1
  have hfl : (flat cs).length = len * 4 := by rw [flat_length, hlen]
  have hcell : ∀ i, i < len → w.cell? ⟨g, i * 4, none⟩ = some (.int .i64 (cs.getD i Cmd.none).k) ∧ w.cell? ⟨g, i * 4 + 1, none⟩ = some (.int .i64 (cs.getD i Cmd.none).b) ∧ w.cell? ⟨g, i * 4 + 2, none⟩ = some (.int .i64 (cs.getD i Cmd.none).p) ∧ w.cell? ⟨g, i * 4 + 3, none⟩ = some (.int .i64 (cs.getD i Cmd.none).s) := fun i hi => by
    have hh : ∀ j, j < 4 → w.cell? ⟨g, i * 4 + j, none⟩ = some ((cs.getD i Cmd.none).cell j) := fun j hj => by
      rw [World.ownsRow.cellAt own (i * 4 + j) (by omega), flat_append, List.getElem?_append_left (by omega), flat_cell cs i j (by omega) hj]
    exact ⟨hh 0 (by omega), hh 1 (by omega), hh 2 (by omega), hh 3 (by omega)⟩
  have e0 : w.cell? ⟨g, len * 4, none⟩ = some (.int .i64 71) := by
    rw [World.ownsRow.cellAt own (len * 4) (by omega), flat_append, List.getElem?_append_right (by omega), hfl]
    simp [flat, tail2, Cmd.cells]
  have e1 : w.cell? ⟨g, (len + 1) * 4, none⟩ = some (.int .i64 72) := by
    rw [World.ownsRow.cellAt own ((len + 1) * 4) (by omega), flat_append, List.getElem?_append_right (by omega), hfl, show (len + 1) * 4 - len * 4 = 4 by omega]
    simp [flat, tail2, Cmd.cells]
  have hc' : (len : Int) + 2 ≤ (c : Int) := by omega
  clear own
  go_enter Try.func29, Try.ntmps29
  go_wp2
  go_loopw [6] (fun i wr => ∃ k m : Nat, k ≤ len ∧ i = .int .i64 k ∧ wr = w.drewN m)
    (fun i _ => len - (intOf i).toNat)
  case atStart => exact ⟨0, 0, Nat.zero_le _, rfl, rfl⟩
  case round =>
    obtain ⟨k, m, hk, rfl, rfl⟩ := hrel
    by_cases hlt : k < len
    · obtain ⟨g', off, rfl, hg', hcell'⟩ := h.pos (by omega)
      obtain ⟨z, hz⟩ : ∃ z, z = cs.getD k Cmd.none := ⟨_, rfl⟩
      obtain ⟨x0, x1, x2, x3⟩ := hcell k hlt
      obtain ⟨y0, y1, y2, y3⟩ := hcell' k hlt
      rw [← hz] at x0 x1 x2 x3 y0 y1 y2 y3
      have i1 : (k : Int) < (len : Int) := by omega
      have i2 : (k : Int) < (len : Int) + 2 := by omega
      clear hz hcell hcell'
      obtain ⟨zk, zb, zp, zs⟩ := z
      go_wp2
      go_quiet (fail)
      all_goals go_wp2
      all_goals go_roundw
      case rel => exact ⟨k + 1, _, by omega, by go_num, rfl⟩
      case measure => simp [intOf]; omega
    · have hkl : k = len := by omega
      subst hkl
      have i2 : (k : Int) < (k : Int) + 2 := by omega
      have i3 : (k : Int) + 1 < (k : Int) + 2 := by omega
      clear hcell
      go_wp2
      go_ret
      exact ⟨rfl, m, rfl⟩
end Go.Proofs.Ytejonebnmeinhab
