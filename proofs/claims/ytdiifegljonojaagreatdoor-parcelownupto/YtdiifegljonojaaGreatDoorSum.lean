/-
  SEAT YtdiifegljonojaaGreatDoor: words.Sum and the reference's Sum.
-/
import Derived.Test.YtdiifegljonojaaGreatDoorBase
import Derived.Test.YtdiifegljonojaaGreatDoorCrc
namespace Go.Proofs.YtdiifegljonojaaGreatDoor
open Go.RowKit
set_option linter.unusedVariables false

def nats (zs : List Int) : List Nat := zs.map Int.toNat

theorem nats_lt {zs : List Int} (h : ∀ x ∈ zs, 0 ≤ x ∧ x ≤ 255) : ∀ z ∈ nats zs, z < 256 := by
  intro z hz
  obtain ⟨x, hx, rfl⟩ := List.mem_map.1 hz
  have := h x hx
  omega
theorem crc_take (zs : List Int) (k : Nat) (h : k < zs.length) : crcL (nats (zs.take (k + 1))) = crcB (crcL (nats (zs.take k))) (zs.getD k 0).toNat := by
  rw [List.take_succ_eq_append_getElem h, nats, List.map_append, ← nats]
  simp only [List.map_cons, List.map_nil]
  rw [crcL_snoc]
  simp [List.getD_eq_getElem?_getD, List.getElem?_eq_getElem h]
theorem crc_take_lt {zs : List Int} (h : ∀ x ∈ zs, 0 ≤ x ∧ x ≤ 255) (k : Nat) : crcL (nats (zs.take k)) < 4294967296 :=
  crcL_lt _ (nats_lt fun x hx => h x (List.mem_of_mem_take hx))

/-- The table, as it is read. -/
def Tab (w : World) : Prop := ∀ i, i < 16 → w.cell? ⟨0, i, none⟩ = some (.int .u32 ((tab.getD i 0 : Nat) : Int))
theorem tab_lt (i : Nat) : tab.getD i 0 < 4294967296 := by
  by_cases h : i < 16
  · rw [tab_eq i h]
    exact stepN_lt _ _ (by omega)
  · rw [List.getD_eq_getElem?_getD, List.getElem?_eq_none (by simp [tab]; omega)]
    decide

theorem and15 (r : Nat) (h : r < 4294967296) : bits .and .u32 (r : Int) 15 = ((r % 16 : Nat) : Int) := by
  have := u32_and_nat r 15 h (by decide)
  rw [show ((15 : Nat) : Int) = 15 from rfl] at this
  rw [this, nat_mask4]

theorem xor32i (a b : Nat) (ha : a < 4294967296) (hb : b < 4294967296) : bits .xor .u32 (a : Int) (b : Int) = ((a ^^^ b : Nat) : Int) := u32_xor_nat a b ha hb

theorem not32 (r : Nat) (h : r < 4294967296) : bits .xor .u32 IntKind.u32.max (r : Int) = ((r ^^^ 4294967295 : Nat) : Int) := by
  have e : IntKind.u32.max = ((4294967295 : Nat) : Int) := by decide
  rw [e, u32_xor_nat _ _ (by omega) h, Nat.xor_comm]

set_option maxHeartbeats 400000 in
set_option maxRecDepth 100000 in
theorem sum_any (a : Option Addr) (l cap : Nat) (zs : List Int) (w : World) (hl : l ≤ 200000000000000) (h : Reads w a l zs) (ht : Tab w) :
    Calls Tryz.prog 27 #[.slice a l cap] w fun e w' => e = .returned (.int .u32 ((sumL (nats zs) : Nat) : Int)) ∧ w = w' := by
  have hlen := h.1
  go_enter Tryz.func27, Tryz.ntmps27
  go_wp2
  go_loop [3, 8] (fun x i => ∃ (k q : Nat), k ≤ l ∧ i = .int .i64 k ∧ x = .int .u32 q ∧ Hid (q = crcL (nats (zs.take k))))
    (fun _ i => l - (intOf i).toNat)
  case atStart => exact ⟨0, 4294967295, Nat.zero_le _, rfl, rfl, by simp [Hid, nats, crcL]⟩
  case round =>
    obtain ⟨k, q, hk, rfl, rfl, HQ⟩ := hrel
    by_cases hlt : k < l
    · obtain ⟨b, off, rfl, hb, hcell⟩ := h.pos (by omega)
      have hz0 := byteAt h.2.1 k
      obtain ⟨z, hz⟩ := Int.eq_ofNat_of_zero_le hz0.1
      have hcx : w.cell? ⟨b, off + k, none⟩ = some (.int .u8 (z : Int)) := by rw [← hz]; exact hcell k (by omega)
      have hz1 : z ≤ 255 := by omega
      have hq : q < 4294967296 := by rw [HQ.out]; exact crc_take_lt h.2.1 k
      obtain ⟨r1, hr1⟩ : ∃ r1, r1 = q ^^^ z := ⟨_, rfl⟩
      have hr1l : r1 < 4294967296 := by rw [hr1]; exact xor32 _ _ hq (by omega)
      have e1 : bits .xor .u32 (q : Int) (z : Int) = (r1 : Int) := by rw [hr1]; exact xor32i q z hq (by omega)
      have e2 : bits .and .u32 (r1 : Int) 15 = ((r1 % 16 : Nat) : Int) := and15 r1 hr1l
      have c1 : w.cell? ⟨0, r1 % 16, none⟩ = some (.int .u32 ((tab.getD (r1 % 16) 0 : Nat) : Int)) := ht _ (by omega)
      obtain ⟨t1, ht1⟩ : ∃ t1, t1 = tab.getD (r1 % 16) 0 := ⟨_, rfl⟩
      have ht1l : t1 < 4294967296 := by rw [ht1]; exact tab_lt _
      rw [← ht1] at c1
      obtain ⟨i1, hi1⟩ : ∃ i1, i1 = r1 % 16 := ⟨_, rfl⟩
      have hi1l : i1 < 16 := by omega
      rw [← hi1] at e2 c1
      obtain ⟨r2, hr2⟩ : ∃ r2, r2 = r1 / 16 ^^^ t1 := ⟨_, rfl⟩
      have hr2l : r2 < 4294967296 := by rw [hr2]; exact xor32 _ _ (by omega) ht1l
      have e3 : bits .xor .u32 ((r1 : Int) / 16) (t1 : Int) = (r2 : Int) := by rw [hr2]; exact xor32i (r1 / 16) t1 (by omega) ht1l
      have e4 : bits .and .u32 (r2 : Int) 15 = ((r2 % 16 : Nat) : Int) := and15 r2 hr2l
      have c2 : w.cell? ⟨0, r2 % 16, none⟩ = some (.int .u32 ((tab.getD (r2 % 16) 0 : Nat) : Int)) := ht _ (by omega)
      obtain ⟨t2, ht2⟩ : ∃ t2, t2 = tab.getD (r2 % 16) 0 := ⟨_, rfl⟩
      have ht2l : t2 < 4294967296 := by rw [ht2]; exact tab_lt _
      rw [← ht2] at c2
      obtain ⟨i2, hi2⟩ : ∃ i2, i2 = r2 % 16 := ⟨_, rfl⟩
      have hi2l : i2 < 16 := by omega
      rw [← hi2] at e4 c2
      obtain ⟨r3, hr3⟩ : ∃ r3, r3 = r2 / 16 ^^^ t2 := ⟨_, rfl⟩
      have e5 : bits .xor .u32 ((r2 : Int) / 16) (t2 : Int) = (r3 : Int) := by rw [hr3]; exact xor32i (r2 / 16) t2 (by omega) ht2l
      have HS : Hid (r3 = crcL (nats (zs.take (k + 1)))) := by
        unfold Hid
        rw [crc_take zs k (by omega), ← HQ.out, hz, Int.toNat_natCast, ← crcB_tab, ← hr1, ← ht1, ← hr2, ← ht2, ← hr3]
      clear hz hz0 HQ hcell h hlen ht hr1 ht1 hr2 ht2 hr3 hi1 hi2
      go_wp2
      go_round
      case rel => exact ⟨k + 1, r3, by omega, by go_num, rfl, HS⟩
      case measure => simp [intOf]; omega
    · have hkl : k = l := by omega
      subst hkl
      have hq := HQ.out
      rw [List.take_of_length_le (by omega)] at hq
      have hql : q < 4294967296 := by rw [hq]; exact crcL_lt _ (nats_lt h.2.1)
      have e1 := not32 q hql
      have HS : Hid (q ^^^ 4294967295 = sumL (nats zs)) := by unfold Hid; rw [hq]; rfl
      obtain ⟨s, hs⟩ : ∃ s, s = q ^^^ 4294967295 := ⟨_, rfl⟩
      rw [← hs] at HS e1
      clear hq hs
      go_wp2
      go_ret
      exact ⟨by rw [← HS.out]; rfl, rfl⟩

theorem step_odd (r : Nat) (h : r % 2 = 1) (hr : r < 4294967296) : bits .xor .u32 ((r : Int) / 2) 3988292384 = ((step1 r : Nat) : Int) := by
  have h1 := u32_xor_nat (r / 2) 3988292384 (by omega) (by omega)
  rw [step1, if_pos h, ← h1]
  rfl
theorem step_even (r : Nat) (h : ¬ r % 2 = 1) : (r : Int) / 2 = ((step1 r : Nat) : Int) := by
  rw [step1, if_neg h]
  omega

theorem Tab.below {w w' : World} (h : Tab w) (hb : Below w.heap.size w w') : Tab w' := fun i hi => by
  rw [hb.cell (block_lt_of_cell (h i hi))]
  exact h i hi
theorem Tab.drewN {w : World} (h : Tab w) (k : Nat) : Tab (w.drewN k) := fun i hi => by simpa using h i hi

theorem Reads.front {w : World} {a : Option Addr} {len : Nat} {zs : List Int} (h : Reads w a len zs) (m : Nat) (hm : m ≤ len) : Reads w a m (zs.take m) := by
  obtain ⟨h1, h2, h3, h4⟩ := h
  refine ⟨by simp; omega, fun x hx => h2 x (List.mem_of_mem_take hx), fun e => by have := h3 e; omega, fun x hx i hi => ?_⟩
  rw [h4 x hx i (by omega)]
  simp [List.getD, hi]

end Go.Proofs.YtdiifegljonojaaGreatDoor
