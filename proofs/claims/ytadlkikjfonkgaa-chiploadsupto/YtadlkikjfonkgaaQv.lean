/-
  SEAT Ytadlkikjfonkgaa: Xr.
-/
import Derived.Test.YtadlkikjfonkgaaQa
namespace Go.Proofs.Ytadlkikjfonkgaa
open Go.RowKit
set_option linter.unusedVariables false
set_option maxRecDepth 100000
set_option maxHeartbeats 4000000
theorem rrise_any (a : Option Addr) (l cap : Nat) (zs : List Int) (am : Option Addr) (lm cm : Nat) (ms : List Int) (fill : Int) (w : World) (hl : l ≤ 140737488351232) (hlm : lm ≤ 140737488351232) (h : Reads w a l zs) (hm : Reads w am lm ms) :
  Calls Try.prog 100 #[.slice a l cap, .slice am lm cm, .int .u8 fill] w fun e w' => ∃ g c, e = .returned (.slice (some ⟨g, 0, none⟩) l c) ∧ Own w' w.heap.size g l c (riseL zs ms fill l) ∧ Below w.heap.size w w' := by
 obtain ⟨i0, hi, hz0, hz1, hz2⟩ := info_parts info5
 have hlen := h.1
 go_enter Try.func100, Try.ntmps100
 go_wp2
 go_loopw [7, 8] (fun v i wr => ∃ k g c : Nat, k ≤ l ∧ i = .int .i64 k ∧ v = .slice (some ⟨g, 0, none⟩) k c ∧ Own wr w.heap.size g k c (riseL zs ms fill k) ∧ Below w.heap.size w wr)
  (fun _ i _ => l - (intOf i).toNat)
 case atStart => exact ⟨0, w.heap.size, 0, Nat.zero_le _, rfl, rfl, by simpa [Own, riseL] using World.ownsRow_made w #[] 0 (Nat.le_refl _) (by simp [maxLen]) rfl, (Below.refl w.heap.size w).alloc (Nat.le_refl _) _⟩
 case round =>
  obtain ⟨k, g, c, hk, rfl, rfl, hown, hbel⟩ := hrel
  by_cases hlt : k < l
  ·obtain ⟨b, off, rfl, hb, hcell⟩ := h.pos (by omega)
   obtain ⟨z, hz⟩ : ∃ z, z = zs.getD k 0 := ⟨_, rfl⟩
   have hcx : wr.cell? ⟨b, off + k, none⟩ = some (.int .u8 z) := by rw [hz]; exact (hbel.cell (by exact hb)).trans (hcell k hlt)
   have HZ : Hid (z = zs.getD k 0) := hz
   have hmr := hm.below hbel
   have HMR : Hid (Reads wr am lm ms) := hmr
   have hbw : b < wr.heap.size := by have := hbel.size; omega
   have hgB := hown.lt.1
   have hne : some b ≠ Value.ownBlock (.slice (some ⟨g, 0, none⟩) k c) := by simp [Value.ownBlock]; omega
   obtain ⟨q, hq⟩ : ∃ q, q = mk ms fill k := ⟨_, rfl⟩
   have HQ : Hid (∀ u : World, Below wr.heap.size wr u → Calls Try.prog 111 #[.slice am lm cm, .int .u8 fill, .int .i64 k] u fun e w' => e = .returned (.int .u8 q) ∧ u = w') := fun u hu => by
    rw [hq]; exact masked_any _ _ _ ms _ k _ (by omega) (by omega) (hmr.below hu)
   have HL : Hid (riseL zs ms fill (k + 1) = riseL zs ms fill k ++ [bits .or .u8 z q]) := by unfold Hid; rw [riseL, hz, hq]
   have i1 : (k : Int) < (l : Int) := by omega
   have hd1 : decide ((k : Int) < (l : Int)) = true := decide_eq_true i1
   have hsz := hbel.size
   unfold Own at hown
   clear hz hq hmr hcell h hlen hm HZ HMR
   go_wp2
   go_region_held3 (fun w' => w'.cell? ⟨b, off + k, none⟩ = some (.int .u8 z))
    (first | go_keep | (rw [hgrow1.cell_far _ (by simp; omega) hne]; simp [*]))
    (first
     | (go_at_call 111; refine (HQ.out _ ?_).mono ?_; exact (Below.refl _ _).drew; rintro e u ⟨rfl, rfl⟩)
     | (refine step_append_lies _ (by rfl) _ _ _ (by rfl) w.heap.size 5 i0 (.int .u8 0) 1 1 Try.underlying24 hi hz0 hz1 hz2 rfl (by decide) _ k _ (by rfl) ((hown.alloc _).drew) ⟨wr.heap.size, 0, none⟩ 1 1 [.int .u8 (bits .or .u8 z q)] (by rfl) (by rfl) (news_one _ _) (by simp [Value.oneCell']) (by omega) (by simp [maxLen]; omega) (by omega) (by simp; omega) (wr.heap.size + 1) (by simp) ?_; intro g1 c1 w1 hown1 hgrow1 hat1 hlt1))
   have hown2 : Own w1 w.heap.size g1 (k + 1) c1 (riseL zs ms fill (k + 1)) := by
    unfold Own
    rw [HL.out, List.map_append]
    exact hown1
   have hbel2 : Below w.heap.size w w1 := ((hbel.alloc hbel.size _).drew).grown hgrow1 (by simp; omega) (fun k hk => (hown.lt k hk).1)
   clear hown1 hgrow1 hown hcx
   go_wp2
   go_roundw
   case rel => exact ⟨k + 1, g1, c1, by omega, by go_num, rfl, hown2, hbel2⟩
   case measure => simp [intOf]; omega
  ·have hkl : k = l := by omega
   subst hkl
   go_wp2
   go_ret
   exact ⟨g, c, rfl, hown, hbel⟩
theorem rfall_ok (a : Option Addr) (l cap : Nat) (zs : List Int) (a' : Option Addr) (cap' : Nat) (xs : List Int) (am : Option Addr) (lm cm : Nat) (ms : List Int) (fill : Int) (w : World) (hl : l ≤ 140737488351232) (hlm : lm ≤ 140737488351232) (h : Reads w a l zs) (hx : Reads w a' l xs) (hm : Reads w am lm ms) (hmr0 : ∀ x ∈ ms, 0 ≤ x ∧ x ≤ 255) (hf : 0 ≤ fill ∧ fill ≤ 255) :
  Calls Try.prog 110 #[.slice a l cap, .slice a' l cap', .slice am lm cm, .int .u8 fill] w fun e w' => ∃ g c, e = .returned (.tuple #[.slice (some ⟨g, 0, none⟩) l c, .int .i64 0]) ∧ Own w' w.heap.size g l c (fallL zs xs ms fill l) ∧ Below w.heap.size w w' := by
 obtain ⟨i0, hi, hz0, hz1, hz2⟩ := info_parts info5
 have hlen := h.1
 go_enter Try.func110, Try.ntmps110
 go_wp2
 go_loopw [10, 11] (fun v i wr => ∃ k g c : Nat, k ≤ l ∧ i = .int .i64 k ∧ v = .slice (some ⟨g, 0, none⟩) k c ∧ Own wr w.heap.size g k c (fallL zs xs ms fill k) ∧ Below w.heap.size w wr)
  (fun _ i _ => l - (intOf i).toNat)
 case atStart => exact ⟨0, w.heap.size, 0, Nat.zero_le _, rfl, rfl, by simpa [Own, fallL] using World.ownsRow_made w #[] 0 (Nat.le_refl _) (by simp [maxLen]) rfl, (Below.refl w.heap.size w).alloc (Nat.le_refl _) _⟩
 case round =>
  obtain ⟨k, g, c, hk, rfl, rfl, hown, hbel⟩ := hrel
  by_cases hlt : k < l
  ·obtain ⟨b, off, rfl, hb, hcell⟩ := h.pos (by omega)
   obtain ⟨b', off', rfl, hb', hcell'⟩ := hx.pos (by omega)
   obtain ⟨z, hz⟩ : ∃ z, z = zs.getD k 0 := ⟨_, rfl⟩
   obtain ⟨x, hxx⟩ : ∃ x, x = xs.getD k 0 := ⟨_, rfl⟩
   have hcx' : wr.cell? ⟨b', off' + k, none⟩ = some (.int .u8 x) := by rw [hxx]; exact (hbel.cell (by exact hb')).trans (hcell' k hlt)
   have hbw' : b' < wr.heap.size := by have := hbel.size; omega
   have hcx : wr.cell? ⟨b, off + k, none⟩ = some (.int .u8 z) := by rw [hz]; exact (hbel.cell (by exact hb)).trans (hcell k hlt)
   have HZ : Hid (z = zs.getD k 0) := hz
   have hmr := hm.below hbel
   have HMR : Hid (Reads wr am lm ms) := hmr
   have hbw : b < wr.heap.size := by have := hbel.size; omega
   have hgB := hown.lt.1
   have hne : some b ≠ Value.ownBlock (.slice (some ⟨g, 0, none⟩) k c) := by simp [Value.ownBlock]; omega
   have hne' : some b' ≠ Value.ownBlock (.slice (some ⟨g, 0, none⟩) k c) := by simp [Value.ownBlock]; omega
   obtain ⟨q, hq⟩ : ∃ q, q = mk ms fill k := ⟨_, rfl⟩
   obtain ⟨hq0, hq1⟩ : 0 ≤ q ∧ q ≤ 255 := by rw [hq]; exact mk_range hmr0 hf k
   have HQ : Hid (∀ u : World, Below wr.heap.size wr u → Calls Try.prog 111 #[.slice am lm cm, .int .u8 fill, .int .i64 k] u fun e w' => e = .returned (.int .u8 q) ∧ u = w') := fun u hu => by
    rw [hq]; exact masked_any _ _ _ ms _ k _ (by omega) (by omega) (hmr.below hu)
   have HL : Hid (fallL zs xs ms fill (k + 1) = fallL zs xs ms fill k ++ [bits .and .u8 z (bits .or .u8 x (IntKind.u8.wrap (255 - q)))]) := by unfold Hid; rw [fallL, ← hz, ← hxx, ← hq, fb, xor_max q hq0 hq1, IntKind.wrap_u8, Int.emod_eq_of_lt (by omega) (by omega)]
   have i1 : (k : Int) < (l : Int) := by omega
   have hd1 : decide ((k : Int) < (l : Int)) = true := decide_eq_true i1
   have hsz := hbel.size
   unfold Own at hown
   clear hz hxx hq hmr hcell hcell' h hx hlen hm HZ HMR hmr0 hf
   go_wp2
   go_region_held3 (fun w' => w'.cell? ⟨b, off + k, none⟩ = some (.int .u8 z) ∧ w'.cell? ⟨b', off' + k, none⟩ = some (.int .u8 x))
    (first | go_keep | (rw [hgrow1.cell_far _ (by simp; omega) hne, hgrow1.cell_far _ (by simp; omega) hne']; simp [*]))
    (first
     | (go_at_call 111; refine (HQ.out _ ?_).mono ?_; exact (Below.refl _ _).drew; rintro e u ⟨rfl, rfl⟩)
     | (refine step_append_lies _ (by rfl) _ _ _ (by rfl) w.heap.size 5 i0 (.int .u8 0) 1 1 Try.underlying24 hi hz0 hz1 hz2 rfl (by decide) _ k _ (by rfl) ((hown.alloc _).drew) ⟨wr.heap.size, 0, none⟩ 1 1 [.int .u8 (bits .and .u8 z (bits .or .u8 x (IntKind.u8.wrap (255 - q))))] (by rfl) (by rfl) (news_one _ _) (by simp [Value.oneCell']) (by omega) (by simp [maxLen]; omega) (by omega) (by simp; omega) (wr.heap.size + 1) (by simp) ?_; intro g1 c1 w1 hown1 hgrow1 hat1 hlt1))
   have hown2 : Own w1 w.heap.size g1 (k + 1) c1 (fallL zs xs ms fill (k + 1)) := by
    unfold Own
    rw [HL.out, List.map_append]
    exact hown1
   have hbel2 : Below w.heap.size w w1 := ((hbel.alloc hbel.size _).drew).grown hgrow1 (by simp; omega) (fun k hk => (hown.lt k hk).1)
   clear hown1 hgrow1 hown hcx hcx'
   go_wp2
   go_roundw
   case rel => exact ⟨k + 1, g1, c1, by omega, by go_num, rfl, hown2, hbel2⟩
   case measure => simp [intOf]; omega
  ·have hkl : k = l := by omega
   subst hkl
   go_wp2
   go_ret2
   exact ⟨g, c, rfl, hown, hbel⟩
end Go.Proofs.Ytadlkikjfonkgaa
