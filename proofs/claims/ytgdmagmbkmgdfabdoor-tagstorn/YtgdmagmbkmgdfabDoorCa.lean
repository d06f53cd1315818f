/-
  SEAT YtgdmagmbkmgdfabDoor: carry, out of bytes.
-/
import Derived.Test.YtgdmagmbkmgdfabDoorRs
import Derived.WalkMore
import Derived.Deep.LoopGhost
namespace Go.Proofs.YtgdmagmbkmgdfabDoor
open Go.RowKit
set_option linter.unusedVariables false

def tabL : List Int := [0, 1, 1, 1, 2, 6, 8, 6, 14, 4, 18, 4, 22, 2, 24, 2]
/-- The table of stretches stands in its place. -/
def Tab (w : World) : Prop := ∀ i, i < 16 → w.cell? ⟨0, i, none⟩ = some (.int .i64 (tabL.getD i 0))
theorem Tab.below {w w' : World} (h : Tab w) (hb : Below w.heap.size w w') : Tab w' := fun i hi => by
  have h1 := h i hi
  rw [hb.cell (block_lt_of_cell h1)]
  exact h1
theorem Tab.all {w : World} (h : Tab w) : w.cell? ⟨0, 0, none⟩ = some (.int .i64 0) ∧ w.cell? ⟨0, 1, none⟩ = some (.int .i64 1) ∧ w.cell? ⟨0, 2, none⟩ = some (.int .i64 1) ∧ w.cell? ⟨0, 3, none⟩ = some (.int .i64 1) ∧ w.cell? ⟨0, 4, none⟩ = some (.int .i64 2) ∧ w.cell? ⟨0, 5, none⟩ = some (.int .i64 6) ∧ w.cell? ⟨0, 6, none⟩ = some (.int .i64 8) ∧ w.cell? ⟨0, 7, none⟩ = some (.int .i64 6) ∧ w.cell? ⟨0, 8, none⟩ = some (.int .i64 14) ∧ w.cell? ⟨0, 9, none⟩ = some (.int .i64 4) ∧ w.cell? ⟨0, 10, none⟩ = some (.int .i64 18) ∧ w.cell? ⟨0, 11, none⟩ = some (.int .i64 4) ∧ w.cell? ⟨0, 12, none⟩ = some (.int .i64 22) ∧ w.cell? ⟨0, 13, none⟩ = some (.int .i64 2) ∧ w.cell? ⟨0, 14, none⟩ = some (.int .i64 24) ∧ w.cell? ⟨0, 15, none⟩ = some (.int .i64 2) :=
  ⟨h 0 (by omega), h 1 (by omega), h 2 (by omega), h 3 (by omega), h 4 (by omega), h 5 (by omega), h 6 (by omega), h 7 (by omega), h 8 (by omega), h 9 (by omega), h 10 (by omega), h 11 (by omega), h 12 (by omega), h 13 (by omega), h 14 (by omega), h 15 (by omega)⟩

theorem get_int (a : Option Addr) (l cap : Nat) (t n : Int) (zs : List Int) (w : World) (hl : l ≤ 140737488355000) (h : Reads w a l zs) (h0 : 0 ≤ t) (h1 : 1 ≤ n) (h2 : n ≤ 8) (ht : t + n ≤ l) :
    Calls Tryd.prog 29 #[.slice a l cap, .int .i64 t, .int .i64 n] w fun e w' => e = .returned (.tuple #[.int .u64 (getL zs t.toNat n.toNat), .int .i64 0]) ∧ w = w' := by
  obtain ⟨t, rfl⟩ := Int.eq_ofNat_of_zero_le h0
  obtain ⟨n, rfl⟩ := Int.eq_ofNat_of_zero_le (show 0 ≤ n by omega)
  exact get_ok a l cap t n zs w hl (by omega) (by omega) (by omega) h

theorem und68 : Tryd.prog.underlying 62 = some (.array 8 61) := by kernel_rfl
theorem inf67 : (Tryd.prog.info? 61).map (·.size) = some 2 := by kernel_rfl
theorem ix_run (cs : Array Value) (k : Nat) (hk : k < 8) (u : World) : (Instr.index 62 (.agg cs) (.int .i64 (k : Int))).run Tryd.prog u = .ok (.agg (cs.extract (k * 2) (k * 2 + 2))) u := by
  cases hq : Tryd.prog.info? 61 with
  | none => have := inf67; simp [hq] at this
  | some i =>
    have hi : i.size = 2 := by have := inf67; simpa [hq] using this
    have hn : (0 : Int) ≤ (k : Int) ∧ (k : Int) < 8 := by omega
    simp [Instr.index, run_underlying und68, asIntOf, hn, go_sem, sizeOf, typeInfo, hq, hi, hk]

def full8 (zs : List Int) : List Int := [getL zs 0 1, getL zs 1 1, getL zs 2 6, getL zs 8 6, getL zs 14 4, getL zs 18 4, getL zs 22 2, getL zs 24 2]
def nums (zs : List Int) (k : Nat) : List Int := (full8 zs).take k ++ List.replicate (8 - k) 0

/-- Eight numbers in a block. -/
def Nums (w : World) (B g : Nat) (xs : List Int) : Prop := w.ownsRow B 46 1 (.slice (some ⟨g, 0, none⟩) 8 8) 8 (xs.map (Value.int .u64))
theorem Nums.set {w : World} {B g : Nat} {xs : List Int} (h : Nums w B g xs) (j : Nat) (z : Int) : Nums (w.setCell ⟨g, j, none⟩ (.int .u64 z)) B g (xs.set j z) ∧ w.grownBy (w.setCell ⟨g, j, none⟩ (.int .u64 z)) (some g) := by
  unfold Nums at *
  rw [List.map_set]
  exact World.ownsRow.stored h j (.int .u64 z)
theorem Nums.cell {w : World} {B g : Nat} {xs : List Int} (h : Nums w B g xs) (j : Nat) (hj : j < 8) : w.cell? ⟨g, j, none⟩ = some (.int .u64 (xs.getD j 0)) := by
  have hl : xs.length = 8 := by have := h.1; simpa using this
  rw [World.ownsRow.cellAt h j (by omega), List.getElem?_map, List.getElem?_eq_getElem (by omega)]
  simp [List.getD, List.getElem?_eq_getElem (show j < xs.length by omega)]

set_option maxHeartbeats 600000 in
set_option maxRecDepth 100000 in
theorem carry_out (a : Option Addr) (cap g B : Nat) (zs : List Int) (w : World) (hT : Tab w) (h : Reads w a 26 zs) (hB : B ≤ w.heap.size) (hN : Nums w B g (nums zs 0)) (hsep : ∀ b off, a = some ⟨b, off, none⟩ → b ≠ g) (hg0 : g ≠ 0) :
    Calls Tryd.prog 18 #[.int .i64 1, .slice a 26 cap, .pointer (some ⟨g, 0, none⟩)] w fun e w' => e = .returned (.bool true) ∧ Nums w' B g (nums zs 8) ∧ w.grownBy w' (some g) := by
  obtain ⟨t0, t1, t2, t3, t4, t5, t6, t7, t8, t9, t10, t11, t12, t13, t14, t15⟩ := hT.all
  have HR : Hid (∀ x : World, w.grownBy x (some g) → Reads x a 26 zs) := fun x hx => by
    obtain ⟨b, off, rfl, hb, _⟩ := h.pos (by omega)
    obtain ⟨r1, r2, r3, r4⟩ := h
    refine ⟨r1, r2, r3, fun y hy i hi => ?_⟩
    have r5 := r4 y hy i hi
    cases hy
    rw [plain_add] at r5 ⊢
    rw [World.cell?_of_block (hx.block b hb (by simp; exact hsep b off rfl))]
    exact r5
  have HN : Hid (Nums w B g (nums zs 0)) := hN
  clear hT h hN hsep
  go_enter Tryd.func18, Tryd.ntmps18
  go_wp2
  go_step3
  go_wp2
  go_step3
  go_wp2
  clear t0 t1 t2 t3 t4 t5 t6 t7 t8 t9 t10 t11 t12 t13 t14 t15
  go_loopw [7, 11] (fun v i wr => ∃ k : Nat, k ≤ 8 ∧ i = .int .i64 k ∧ v = .bool true ∧ Hid (Nums wr B g (nums zs k)) ∧ w.grownBy wr (some g))
    (fun _ i _ => 8 - (intOf i).toNat)
  case atStart => exact ⟨0, by omega, rfl, rfl, HN, World.grownBy.refl _ _⟩
  case round =>
    obtain ⟨k, hk, rfl, rfl, HK, hgr⟩ := hrel
    by_cases hlt : k < 8
    · have hglt : g < wr.heap.size := (World.ownsRow.lt HK.out g rfl).2
      obtain ⟨t, n, hn1, hn8, htn, hix, hnx⟩ : ∃ t n : Nat, 1 ≤ n ∧ n ≤ 8 ∧ t + n ≤ 26 ∧ (∀ u, (Instr.index 62 (.agg #[.int .i64 0, .int .i64 1, .int .i64 1, .int .i64 1, .int .i64 2, .int .i64 6, .int .i64 8, .int .i64 6, .int .i64 14, .int .i64 4, .int .i64 18, .int .i64 4, .int .i64 22, .int .i64 2, .int .i64 24, .int .i64 2]) (.int .i64 (k : Int))).run Tryd.prog u = .ok (.agg #[.int .i64 (t : Int), .int .i64 (n : Int)]) u) ∧ nums zs (k + 1) = (nums zs k).set k (getL zs t n) := by
        rcases (show k = 0 ∨ k = 1 ∨ k = 2 ∨ k = 3 ∨ k = 4 ∨ k = 5 ∨ k = 6 ∨ k = 7 by omega) with rfl | rfl | rfl | rfl | rfl | rfl | rfl | rfl
        · exact ⟨0, 1, by omega, by omega, by omega, fun u => ix_run _ 0 (by omega) u, rfl⟩
        · exact ⟨1, 1, by omega, by omega, by omega, fun u => ix_run _ 1 (by omega) u, rfl⟩
        · exact ⟨2, 6, by omega, by omega, by omega, fun u => ix_run _ 2 (by omega) u, rfl⟩
        · exact ⟨8, 6, by omega, by omega, by omega, fun u => ix_run _ 3 (by omega) u, rfl⟩
        · exact ⟨14, 4, by omega, by omega, by omega, fun u => ix_run _ 4 (by omega) u, rfl⟩
        · exact ⟨18, 4, by omega, by omega, by omega, fun u => ix_run _ 5 (by omega) u, rfl⟩
        · exact ⟨22, 2, by omega, by omega, by omega, fun u => ix_run _ 6 (by omega) u, rfl⟩
        · exact ⟨24, 2, by omega, by omega, by omega, fun u => ix_run _ 7 (by omega) u, rfl⟩
      have hst : ∀ o, Nums ((wr.setCell ⟨g, k, none⟩ (.int .u64 (getL zs t n))).alloc o) B g (nums zs (k + 1)) ∧ w.grownBy ((wr.setCell ⟨g, k, none⟩ (.int .u64 (getL zs t n))).alloc o) (some g) := by
        intro o
        have h2 := HK.out.set k (getL zs t n)
        rw [← hnx] at h2
        exact ⟨World.ownsRow.alloc h2.1 o, grownBy_trans (grownBy_trans hgr h2.2) (World.grownBy_alloc _ _ _)⟩
      have HST : Hid _ := hst
      have hco := HK.out.cell k hlt
      have hfo : wr.frozen? ⟨g, k, none⟩ = false := World.ownsRow.frozenAt HK.out k
      have HGA : Hid (∀ o, w.grownBy (wr.alloc o) (some g) ∧ w.grownBy (wr.alloc o).drew (some g)) := fun o => ⟨grownBy_trans hgr (World.grownBy_alloc _ _ _), grownBy_trans (grownBy_trans hgr (World.grownBy_alloc wr o _)) ⟨rfl, rfl, rfl, Nat.le_refl _, fun _ _ _ => rfl⟩⟩
      have m1 : (k : Int) < 8 := by omega
      have hd1 : decide ((k : Int) < 8) = true := decide_eq_true m1
      clear hst hnx HK hgr
      go_wp2
      go_region_with (go_at_call 29; refine (get_ok _ _ _ _ _ zs _ ?_ ?_ ?_ ?_ (HR.out _ ?_)).mono ?_; omega; omega; omega; omega; (first | exact (HGA.out _).1 | exact (HGA.out _).2); rintro e u ⟨rfl, rfl⟩)
      all_goals go_wp2
      all_goals
        go_roundw
        case rel => exact ⟨k + 1, by omega, by go_num, rfl, (HST.out _).1, grownBy_trans (HST.out _).2 ⟨rfl, rfl, rfl, Nat.le_refl _, fun _ _ _ => rfl⟩⟩
        case measure => simp [intOf]; omega
    · have hk8 : k = 8 := by omega
      subst hk8
      go_wp2
      try rw [Exit.noGoto_ret]
      go_ret
      exact ⟨rfl, HK.out, hgr⟩
end Go.Proofs.YtgdmagmbkmgdfabDoor
