/-
  SEAT YteefekhlbillfaaDoor: a part of a row; a page of the reference; a window; a row joined of one.
-/
import Derived.Test.YteefekhlbillfaaDoorE
import Derived.Handy
namespace Go.Proofs.YteefekhlbillfaaDoor
open Go.RowKit
set_option linter.unusedVariables false

theorem Reads.part {w : World} {a : Option Addr} {len : Nat} {zs : List Int} (h : Reads w a len zs) (i j : Nat) (hi : i ≤ j) (hj : j ≤ len) (hp : i < j) :
    ∃ b off, a = some ⟨b, off, none⟩ ∧ Reads w (some ⟨b, off + i, none⟩) (j - i) ((zs.drop i).take (j - i)) := by
  obtain ⟨b, off, rfl, hb, hc⟩ := h.pos (by omega)
  have hl := h.1
  refine ⟨b, off, rfl, by simp; omega, fun x hx => h.2.1 x (List.mem_of_mem_drop (List.mem_of_mem_take hx)), (fun h => by cases h), fun x hx k hk => ?_⟩
  cases hx
  rw [plain_add, show off + i + k = off + (i + k) by omega, hc (i + k) (by omega)]
  simp [List.getD_eq_getElem?_getD, hk]

theorem part_snoc (zs : List Int) (i k : Nat) (h : i + k < zs.length) : (zs.drop i).take k ++ [zs.getD (i + k) 0] = (zs.drop i).take (k + 1) := by
  rw [List.take_succ_eq_append_getElem (by simp; omega)]
  congr 1
  simp [List.getD_eq_getElem?_getD, List.getElem?_eq_getElem h]

set_option maxHeartbeats 400000 in
set_option maxRecDepth 100000 in
theorem part_any (a : Option Addr) (l cap i j : Nat) (zs : List Int) (w : World) (hl : l ≤ 140737488355000) (hi : i ≤ j) (hj : j ≤ l) (h : Reads w a l zs) :
    Calls Tryd.prog 26 #[.slice a l cap, .int .i64 i, .int .i64 j] w fun e w' => ∃ v, e = .returned v ∧ w'.ownsRow w.heap.size 5 1 v (j - i) (((zs.drop i).take (j - i)).map (Value.int .u8)) ∧ Below w.heap.size w w' := by
  obtain ⟨i0, hi0, hz0, hz1, hz2⟩ := info_parts info5
  have hlen := h.1
  go_enter Tryd.func26, Tryd.ntmps26
  go_wp2
  go_loopw [7, 8] (fun v q wr => ∃ k : Nat, i + k ≤ j ∧ q = .int .i64 ((i + k : Nat) : Int) ∧ wr.ownsRow w.heap.size 5 1 v k (((zs.drop i).take k).map (Value.int .u8)) ∧ Below w.heap.size w wr)
    (fun _ q _ => j - (intOf q).toNat)
  case atStart => exact ⟨0, by omega, rfl, ⟨by simp, Or.inl ⟨rfl, rfl⟩⟩, Below.refl _ _⟩
  case round =>
    rename_i v wr
    obtain ⟨k, hk, rfl, hown, hbel⟩ := hrel
    by_cases hlt : i + k < j
    · obtain ⟨b, off, rfl, hb, hcell⟩ := h.pos (by omega)
      obtain ⟨z, hz⟩ : ∃ z, z = zs.getD (i + k) 0 := ⟨_, rfl⟩
      have hcx : wr.cell? ⟨b, off + (i + k), none⟩ = some (.int .u8 z) := by
        rw [hbel.cell (show (⟨b, off + (i + k), none⟩ : Addr).block < w.heap.size from hb), hz]; exact hcell (i + k) (by omega)
      obtain ⟨x, hx⟩ : ∃ x, i + k = x := ⟨_, rfl⟩
      have hx1 : x < j := by omega
      have hx2 : x < l := by omega
      rw [hx] at hcx
      have i1 : (x : Int) < (j : Int) := by omega
      have i2 : (x : Int) < (l : Int) := by omega
      have hd1 : decide ((x : Int) < (j : Int)) = true := decide_eq_true i1
      rw [hx]
      have HX : Hid (i + k = x) := hx
      have HZ : Hid (z = zs.getD (i + k) 0) := hz
      clear hcell hz hx
      go_wp2_with (
        (at_builtin; refine wpList_append_own _ rfl _ _ 22 rfl w.heap.size 5 i0 (.int .u8 0) 1 1 Tryd.underlying22 hi0 hz0 hz1 hz2 rfl (by decide) _ _ _ rfl (hown.alloc _) ⟨_, 0, none⟩ 1 1 [.int .u8 z] rfl rfl (news_one _ _) (by simp [Value.oneCell']) (by simp [maxLen]; omega) (by omega) (by have := hbel.size; simp; omega) ?_; intro v2 w2 hown2 hgrow2 _))
      have hown3 : w2.ownsRow w.heap.size 5 1 v2 (k + 1) (((zs.drop i).take (k + 1)).map (Value.int .u8)) := by
        rw [← part_snoc zs i k (by omega), List.map_append, ← HZ.out]
        exact hown2
      have hbel3 := (hbel.alloc hbel.size _).grown hgrow2 (by have := hbel.size; simp; omega) (fun k hk => (hown.lt k hk).1)
      have hx := HX.out
      clear hown2 hgrow2 hown
      go_wp2
      go_roundw
      case rel => exact ⟨k + 1, by omega, by rw [← HX.out]; go_num, hown3, hbel3⟩
      case measure => simp [intOf]; omega
    · have hk7 : j - i = k := by omega
      have hx : i + k = j := by omega
      have HK : Hid (j - i = k) := hk7
      obtain ⟨x, hx'⟩ : ∃ x, i + k = x := ⟨_, rfl⟩
      have hd1 : ¬ x < j := by omega
      rw [hx']
      clear hk7 hx hx'
      go_wp2
      go_ret
      exact ⟨_, rfl, by rw [HK.out]; exact hown, hbel⟩

end Go.Proofs.YteefekhlbillfaaDoor
