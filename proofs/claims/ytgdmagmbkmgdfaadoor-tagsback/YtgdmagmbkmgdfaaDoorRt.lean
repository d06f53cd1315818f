/-
  SEAT YtgdmagmbkmgdfaaDoor: the reference's Read.
-/
import Derived.Test.YtgdmagmbkmgdfaaDoorRs
namespace Go.Proofs.YtgdmagmbkmgdfaaDoor
open Go.RowKit
set_option linter.unusedVariables false

set_option maxHeartbeats 400000 in
theorem rread8_bad (a : Option Addr) (l cap : Nat) (w : World) (hl : l ≤ 140737488355000) (h : l ≠ 26) :
    Calls Tryd.prog 8 #[.slice a l cap] w fun e w' => e = .returned (.tuple #[T8 0 0 0 0 0 0 0 0, .int .i64 60]) ∧ Below w.heap.size w w' := by
  have h1 : ((l : Int) == 26) = false := by simp; omega
  go_enter Tryd.func8, Tryd.ntmps8
  go_wp2
  refine bodyPost_ret (v := .tuple #[T8 0 0 0 0 0 0 0 0, .int .i64 60]) (by simp [results, Tryd.results8, go_sem]) rfl ?_
  exact ⟨rfl, (Below.refl _ _).alloc (Nat.le_refl _) _⟩

set_option maxHeartbeats 400000 in
theorem read8_bad (a : Option Addr) (l cap : Nat) (w : World) (hl : l ≤ 140737488355000) (h : l ≠ 26) :
    Calls Tryd.prog 10 #[.slice a l cap] w fun e w' => e = .returned (.tuple #[T8 0 0 0 0 0 0 0 0, .int .i64 60]) ∧ Below w.heap.size w w' := by
  have h1 : ((l : Int) == 26) = false := by simp; omega
  go_enter Tryd.func10, Tryd.ntmps10
  go_wp2
  refine bodyPost_ret (v := .tuple #[T8 0 0 0 0 0 0 0 0, .int .i64 60]) (by simp [results, Tryd.results10, go_sem]) rfl ?_
  exact ⟨rfl, (Below.refl _ _).alloc (Nat.le_refl _) _⟩

theorem sub_reads {w : World} {b off n : Nat} {zs : List Int} (h : Reads w (some ⟨b, off, none⟩) n zs) (t m : Nat) (ht : t + m ≤ n) : Reads w (some ⟨b, off + t, none⟩) m ((zs.drop t).take m) := by
  obtain ⟨h1, h2, _, h4⟩ := h
  refine ⟨by simp; omega, fun x hx => h2 x (List.mem_of_mem_drop (List.mem_of_mem_take hx)), (fun h => by cases h), fun x hx i hi => ?_⟩
  cases hx
  have := h4 _ rfl (t + i) (by omega)
  rw [plain_add] at this ⊢
  rw [Nat.add_assoc, this]
  congr 2
  rw [List.getD_eq_getElem?_getD, List.getD_eq_getElem?_getD, List.getElem?_take_of_lt hi, List.getElem?_drop]

theorem getL_sub (zs : List Int) (t m : Nat) : getL ((zs.drop t).take m) 0 m = getL zs t m := by
  have key : ∀ k, k ≤ m → getL ((zs.drop t).take m) 0 k = getL zs t k := by
    intro k
    induction k with
    | zero => intro _; rfl
    | succ k ih =>
      intro hk
      rw [getL, getL, ih (by omega), Nat.zero_add]
      congr 2
      rw [List.getD_eq_getElem?_getD, List.getD_eq_getElem?_getD, List.getElem?_take_of_lt (by omega), List.getElem?_drop]
  exact key m (Nat.le_refl _)

/-- high of a stretch. -/
theorem high_at {w : World} {b off n : Nat} {zs : List Int} (h : Reads w (some ⟨b, off, none⟩) n zs) (t m : Nat) (ht : t + m ≤ n) (hm : m ≤ 8) (cap : Nat) :
    Calls Tryd.prog 23 #[.slice (some ⟨b, off + t, none⟩) m cap] w fun e w' => e = .returned (.int .u64 (getL zs t m)) ∧ w = w' := by
  have := high_any (some ⟨b, off + t, none⟩) m cap _ w hm (sub_reads h t m ht)
  rw [getL_sub] at this
  exact this

def tagsOf (zs : List Int) : Value := T8 (getL zs 0 1) (getL zs 1 1) (getL zs 2 6) (getL zs 8 6) (getL zs 14 4) (getL zs 18 4) (getL zs 22 2) (getL zs 24 2)

theorem getL_one (zs : List Int) (t : Nat) : getL zs t 1 = zs.getD t 0 := by simp [getL]

set_option maxHeartbeats 300000 in
set_option maxRecDepth 100000 in
theorem rread8_ok (a : Option Addr) (cap : Nat) (zs : List Int) (w : World) (hcap : 26 ≤ cap) (h : Reads w a 26 zs) :
    Calls Tryd.prog 8 #[.slice a 26 cap] w fun e w' => e = .returned (.tuple #[tagsOf zs, .int .i64 0]) ∧ Below w.heap.size w w' := by
  obtain ⟨b, off, rfl, hb, hcell⟩ := h.pos (by omega)
  unfold tagsOf
  rw [getL_one, getL_one]
  obtain ⟨z0, hz0⟩ : ∃ z, z = zs.getD 0 0 := ⟨_, rfl⟩
  obtain ⟨z1, hz1⟩ : ∃ z, z = zs.getD 1 0 := ⟨_, rfl⟩
  have c0 : w.cell? ⟨b, off, none⟩ = some (.int .u8 z0) := by rw [hz0]; exact hcell 0 (by omega)
  have c1 : w.cell? ⟨b, off + 1, none⟩ = some (.int .u8 z1) := by rw [hz1]; exact hcell 1 (by omega)
  rw [← hz0, ← hz1]
  have b0 : 0 ≤ z0 ∧ z0 ≤ 255 := by rw [hz0]; exact byteAt h.2.1 _
  have b1 : 0 ≤ z1 ∧ z1 ≤ 255 := by rw [hz1]; exact byteAt h.2.1 _
  obtain ⟨b00, b01⟩ := b0
  obtain ⟨b10, b11⟩ := b1
  have k1 : ¬ (cap = 2) := by omega
  have k2 : ¬ (cap = 8) := by omega
  have k3 : ¬ (cap = 14) := by omega
  have k4 : ¬ (cap = 18) := by omega
  have k5 : ¬ (cap = 22) := by omega
  have k6 : ¬ (cap = 24) := by omega
  have kc : (26 : Int) ≤ (cap : Int) := by omega
  have i8 : (8 : Int) ≤ (cap : Int) := by omega
  have n8 : 8 ≤ cap := by omega
  have i14 : (14 : Int) ≤ (cap : Int) := by omega
  have n14 : 14 ≤ cap := by omega
  have i18 : (18 : Int) ≤ (cap : Int) := by omega
  have n18 : 18 ≤ cap := by omega
  have i22 : (22 : Int) ≤ (cap : Int) := by omega
  have n22 : 22 ≤ cap := by omega
  have i24 : (24 : Int) ≤ (cap : Int) := by omega
  have n24 : 24 ≤ cap := by omega
  have hw : ∀ t m, m ≤ 4 → wrap64 (getL zs t m) = getL zs t m := by
    intro t m hm
    have h1 := getL_range h.2.1 t m
    have h2 : (256 : Int) ^ m ≤ 256 ^ 4 := pow256_le hm
    have h3 : (256 : Int) ^ 4 = 4294967296 := by decide
    unfold wrap64; omega
  have w14 := hw 14 4 (by omega)
  have w18 := hw 18 4 (by omega)
  have w22 := hw 22 2 (by omega)
  have w24 := hw 24 2 (by omega)
  clear hw
  have HR : Hid (∀ x : World, Below w.heap.size w x → Reads x (some ⟨b, off, none⟩) 26 zs) := fun x hx => h.below hx
  have HB0 : Hid (∀ o, Below w.heap.size w (w.alloc o)) := fun o => (Below.refl _ _).alloc (Nat.le_refl _) o
  have HB1 : Hid (∀ o o', Below w.heap.size w ((w.alloc o).alloc o')) := fun o o' => ((Below.refl _ _).alloc (Nat.le_refl _) o).alloc (by simp) o'
  clear hcell hz0 hz1 h
  go_enter Tryd.func8, Tryd.ntmps8
  go_wp2
  go_region_held3 (fun x => x.cell? ⟨b, off, none⟩ = some (.int .u8 z0) ∧ x.cell? ⟨b, off + 1, none⟩ = some (.int .u8 z1))
    (first | go_keep)
    ((go_at_call 23; refine (high_at (HR.out _ ?_) _ _ ?_ ?_ _).mono ?_; (repeat (first | exact HB0.out _ | exact HB1.out _ _ | refine Below.drew ?_ | refine Below.setCell ?_ (by simp) _)); omega; omega; rintro e u ⟨rfl, rfl⟩))
  all_goals go_wp2_with (first
    | (go_at_call 23; refine (high_at (HR.out _ ?_) _ _ ?_ ?_ _).mono ?_; (repeat (first | exact HB0.out _ | exact HB1.out _ _ | refine Below.drew ?_ | refine Below.setCell ?_ (by simp) _)); omega; omega; rintro e u ⟨rfl, rfl⟩))
  all_goals refine bodyPost_ret (v := .tuple #[T8 z0 z1 (getL zs 2 6) (getL zs 8 6) (getL zs 14 4) (getL zs 18 4) (getL zs 22 2) (getL zs 24 2), .int .i64 0]) (by simp [results, Tryd.results8, go_sem]) rfl ⟨rfl, ?_⟩
  all_goals (repeat (first | exact HB0.out _ | exact HB1.out _ _ | refine Below.drew ?_ | refine Below.setCell ?_ (by simp) _))
end Go.Proofs.YtgdmagmbkmgdfaaDoor
