/-
  SEAT YtgdmagmbkmgdfabDoor: rail.Lay.
-/
import Derived.Test.YtgdmagmbkmgdfabDoorLayA
import Derived.Deep.RegionHeld3
import Derived.Deep.AppendLies
namespace Go.Proofs.YtgdmagmbkmgdfabDoor
open Go.RowKit
set_option linter.unusedVariables false

/-- A byte on two rails; bytes on them. -/
def layB (z : Int) : List Int := [(layN z.toNat : Nat), (layN (z / 16).toNat : Nat)]
def layL (zs : List Int) : List Int := zs.flatMap layB

theorem layL_length (zs : List Int) : (layL zs).length = 2 * zs.length := by
  induction zs with
  | nil => rfl
  | cons z r ih => simp only [layL, List.flatMap_cons, List.length_append, List.length_cons] at *; simp only [layB, List.length_cons, List.length_nil]; omega
theorem layL_append (a b : List Int) : layL (a ++ b) = layL a ++ layL b := by simp [layL]
theorem layL_take (zs : List Int) (k : Nat) (h : k < zs.length) : layL (zs.take (k + 1)) = layL (zs.take k) ++ layB (zs.getD k 0) := by
  rw [List.take_succ_eq_append_getElem h, layL_append]
  simp [layL, List.getD_eq_getElem?_getD, List.getElem?_eq_getElem h]

theorem lay_bad (a : Option Addr) (l cap : Nat) (w : World) (h : 4095 < l) (hl : l ≤ 140737488355000) :
    Calls Tryd.prog 16 #[.slice a l cap] w fun e w' => e = .returned (.tuple #[.slice none 0 0, .int .i64 31]) ∧ w = w' := by
  go_enter Tryd.func16, Tryd.ntmps16
  go_wp2_with (go_at_call 25; refine (size_bad _ _ ?_).mono ?_; omega; rintro e u ⟨rfl, rfl⟩)
  go_ret2
  exact ⟨rfl, rfl⟩

theorem news_two (w : World) (x y : Int) : ∀ j u, [Value.int .u8 x, Value.int .u8 y][j]? = some u → (w.alloc (.cells #[.int .u8 x, .int .u8 y] 5)).cell? ((⟨w.heap.size, 0, none⟩ : Addr).add j) = some u := by
  intro j u hj
  match j, hj with
  | 0, hj => simp at hj; subst hj; simp [Addr.add]
  | 1, hj => simp at hj; subst hj; simp [Addr.add]

set_option maxHeartbeats 1000000 in
theorem lay_ok (a : Option Addr) (l cap : Nat) (zs : List Int) (w : World) (hl : l ≤ 4095) (h : Reads w a l zs) :
    Calls Tryd.prog 16 #[.slice a l cap] w fun e w' => ∃ g c, e = .returned (.tuple #[.slice (some ⟨g, 0, none⟩) (2 * l + 2) c, .int .i64 0]) ∧ Own w' w.heap.size g (2 * l + 2) c (layL (zs ++ [colF zs])) ∧ Below w.heap.size w w' := by
  obtain ⟨i0, hi, hz0, hz1, hz2⟩ := info_parts info5
  have hlen := h.1
  have hmk : ∀ u : World, (Instr.makeSlice 25 (.int .i64 0) (.int .i64 (2 * ((l : Int) + 1)))).run Tryd.prog u =
      .ok (.slice (some ⟨u.heap.size, 0, none⟩) 0 (2 * (l + 1))) (u.alloc (.cells (madeCells #[.int .u8 0] (2 * (l + 1))) 5)) := fun u => by
    have h := run_make (P := Tryd.prog) u 25 5 i0 (.int .u8 0) Tryd.underlying25 hi hz0 .i64 .i64 0 (2 * ((l : Int) + 1)) (by omega) (by omega) (by rw [hz2]; omega) (by omega)
    have e : (2 * ((l : Int) + 1)).toNat = 2 * (l + 1) := by omega
    rw [e] at h
    simpa [hz1, Value.cells] using h
  go_enter Tryd.func16, Tryd.ntmps16
  go_wp2_with (go_at_call 25; refine (size_ok _ _ ?_).mono ?_; omega; rintro e u ⟨rfl, rfl⟩)
  go_loopw [6, 22] (fun v i wr => ∃ k g c : Nat, k ≤ l ∧ i = .int .i64 k ∧ v = .slice (some ⟨g, 0, none⟩) (2 * k) c ∧ Own wr w.heap.size g (2 * k) c (layL (zs.take k)) ∧ Below w.heap.size w wr)
    (fun _ i _ => l - (intOf i).toNat)
  case atStart => exact ⟨0, w.heap.size, _, Nat.zero_le _, rfl, rfl, by simpa [Own, layL] using World.ownsRow_made w (madeCells #[.int .u8 0] (2 * (l + 1))) (2 * (l + 1)) (Nat.le_refl _) (by simp [maxLen]; omega) (by simp [madeCells]), (Below.refl w.heap.size w).alloc (Nat.le_refl _) _⟩
  case round =>
    obtain ⟨k, g, c, hk, rfl, rfl, hown, hbel⟩ := hrel
    by_cases hlt : k < l
    · obtain ⟨b, off, rfl, hb, hcell⟩ := h.pos (by omega)
      obtain ⟨z, hz⟩ : ∃ z, z = zs.getD k 0 := ⟨_, rfl⟩
      have hcx : wr.cell? ⟨b, off + k, none⟩ = some (.int .u8 z) := by rw [hz]; exact (hbel.cell (by exact hb)).trans (hcell k hlt)
      have hz0' : 0 ≤ z ∧ z ≤ 255 := by rw [hz]; exact byteAt h.2.1 _
      have HL : Hid (layL (zs.take (k + 1)) = layL (zs.take k) ++ layB z) := by unfold Hid; rw [layL_take zs k (by omega), hz]
      obtain ⟨hz3, hz4⟩ := hz0'
      have i1 : (0 : Int) ≤ (k : Int) := by omega
      have i2 : (k : Int) < (l : Int) := by omega
      have hbw : b < wr.heap.size := by have := hbel.size; omega
      have hgB := hown.lt.1
      have hne : some b ≠ Value.ownBlock (.slice (some ⟨g, 0, none⟩) (2 * k) c) := by simp [Value.ownBlock]; omega
      unfold Own at hown
      have hsz := hbel.size
      clear hcell h hlen hz
      go_wp2
      go_region_held3 (fun w' => w'.cell? ⟨b, off + k, none⟩ = some (.int .u8 z))
        (first | go_keep | (rw [hgrow1.cell_far _ (by simp; omega) hne]; simp [*]))
        (first
          | (go_at_call 26; refine (pairs_any _ _ ?_ ?_).mono ?_; omega; omega; rintro e u ⟨rfl, rfl⟩)
          | (refine step_append_lies _ (by rfl) _ _ _ (by rfl) w.heap.size 5 i0 (.int .u8 0) 1 1 Tryd.underlying25 hi hz0 hz1 hz2 rfl (by decide) _ (2 * k) _ (by rfl) ((hown.alloc _).drew) ⟨wr.heap.size, 0, none⟩ 2 2 [.int .u8 ((layN z.toNat : Nat) : Int), .int .u8 ((layN (z / 16).toNat : Nat) : Int)] (by rfl) (by rfl) (news_two wr _ _) (by simp [Value.oneCell']) (by omega) (by simp [maxLen]; omega) (by omega) (by simp; omega) (wr.heap.size + 1) (by simp) ?_; intro g1 c1 w1 hown1 hgrow1 hat1 hlt1))
      have hown2 : Own w1 w.heap.size g1 (2 * (k + 1)) c1 (layL (zs.take (k + 1))) := by
        unfold Own
        rw [HL.out, List.map_append]
        exact hown1
      have hbel2 : Below w.heap.size w w1 := ((hbel.alloc hbel.size _).drew).grown hgrow1 (by simp; omega) (fun k hk => (hown.lt k hk).1)
      clear hown1 hgrow1 hown hcx
      go_wp2
      go_roundw
      case rel => exact ⟨k + 1, g1, c1, by omega, by go_num, rfl, hown2, hbel2⟩
      case measure => simp [intOf]; omega
    · have hkl : k = l := by omega
      subst hkl
      rw [List.take_of_length_le (by omega)] at hown
      have hcr := colF_range zs h.2.1 zs.length (Nat.le_refl _)
      rw [List.take_length] at hcr
      obtain ⟨s, hs⟩ : ∃ s, s = colF zs := ⟨_, rfl⟩
      rw [← hs] at hcr
      obtain ⟨hs0, hs1⟩ := hcr
      have hrd := h.below hbel
      have HL : Hid (layL (zs ++ [s]) = layL zs ++ layB s) := by unfold Hid; rw [layL_append]; simp [layL]
      have hcol := column_any a k cap zs wr (by omega) hrd
      rw [← hs] at hcol
      have HSS : Hid (colF zs = s) := hs.symm
      unfold Own at hown
      have hsz := hbel.size
      clear hs
      go_wp2_with (first
        | (go_at_call 27; refine hcol.mono ?_; rintro e u ⟨rfl, rfl⟩)
        | (go_at_call 26; refine (pairs_any _ _ ?_ ?_).mono ?_; omega; omega; rintro e u ⟨rfl, rfl⟩)
        | (at_builtin; refine wpList_append_own _ rfl (.tmp 42) (.tmp 48) 25 rfl w.heap.size 5 i0 (.int .u8 0) 1 1 Tryd.underlying25 hi hz0 hz1 hz2 rfl (by decide) _ _ _ rfl (hown.alloc _) ⟨wr.heap.size, 0, none⟩ 2 2 [.int .u8 ((layN s.toNat : Nat) : Int), .int .u8 ((layN (s / 16).toNat : Nat) : Int)] rfl rfl (news_two wr _ _) (by simp [Value.oneCell']) (by simp [maxLen]; omega) (by omega) (by simp; omega) ?_; intro v1 w1 hown1 hgrow1 _; obtain ⟨g2, c2, rfl, hc2, hm2, hbg, hgl⟩ := own_shape hown1 (by omega)))
      go_ret2
      refine ⟨g2, c2, rfl, ?_, (hbel.alloc hbel.size _).grown hgrow1 (by simp; omega) (fun k hk => (hown.lt k hk).1)⟩
      unfold Own
      rw [HSS.out, HL.out, List.map_append]
      exact hown1

end Go.Proofs.YtgdmagmbkmgdfabDoor
