/-
  SEAT YtgdmagmbkmgdfaaDoor: the reference's low, fits.
-/
import Derived.Test.YtgdmagmbkmgdfaaDoorPa
import Derived.Test.YtgdmagmbkmgdfaaDoorRdW
namespace Go.Proofs.YtgdmagmbkmgdfaaDoor
open Go.RowKit
set_option linter.unusedVariables false

def lowL (v : Int) (n : Nat) : List Int := (List.range n).map (fun i => v / 256 ^ i % 256)
theorem lowL_length (v : Int) (n : Nat) : (lowL v n).length = n := by simp [lowL]
theorem lowL_succ (v : Int) (n : Nat) : lowL v (n + 1) = lowL v n ++ [v / 256 ^ n % 256] := by simp [lowL, List.range_succ]
theorem lowL_range (v : Int) (n : Nat) : ∀ x ∈ lowL v n, 0 ≤ x ∧ x ≤ 255 := by
  intro x hx
  obtain ⟨i, _, rfl⟩ := List.mem_map.1 hx
  omega

theorem rfits_yes (n m : Int) (w : World) (h0 : 0 ≤ n) (h1 : n ≤ m) : Calls Tryd.prog 25 #[.int .i64 n, .int .i64 m] w fun e w' => e = .returned (.bool true) ∧ w = w' := by
  go_enter Tryd.func25, Tryd.ntmps25
  go_wp2
  go_ret
  exact ⟨rfl, rfl⟩
theorem rfits_no (n m : Int) (w : World) (h : n < 0 ∨ m < n) : Calls Tryd.prog 25 #[.int .i64 n, .int .i64 m] w fun e w' => e = .returned (.bool false) ∧ w = w' := by
  by_cases h0 : 0 ≤ n
  · have h1 : ¬ n ≤ m := by omega
    clear h
    go_enter Tryd.func25, Tryd.ntmps25
    go_wp2
    go_ret
    exact ⟨rfl, rfl⟩
  · clear h
    go_enter Tryd.func25, Tryd.ntmps25
    go_wp2
    go_ret
    exact ⟨rfl, rfl⟩

set_option maxHeartbeats 400000 in
theorem low_any (v : Int) (n : Nat) (w : World) (h0 : 0 ≤ v) (h1 : v ≤ 18446744073709551615) (hn : n ≤ 8) :
    Calls Tryd.prog 26 #[.int .u64 v, .int .i64 n] w fun e w' => ∃ a c, e = .returned (.slice a n c) ∧ w'.ownsRow w.heap.size 5 1 (.slice a n c) n ((lowL v n).map (Value.int .u8)) ∧ Below w.heap.size w w' := by
  obtain ⟨i0, hi, hz0, hz1, hz2⟩ := info_parts info5
  have hmk : ∀ u : World, (Instr.makeSlice 22 (.int .i64 0) (.int .i64 (n : Int))).run Tryd.prog u =
      .ok (.slice (some ⟨u.heap.size, 0, none⟩) 0 n) (u.alloc (.cells (madeCells #[.int .u8 0] n) 5)) := fun u => by
    have h := run_make (P := Tryd.prog) u 22 5 i0 (.int .u8 0) Tryd.underlying22 hi hz0 .i64 .i64 0 (n : Int) (by omega) (by omega) (by rw [hz2]; omega) (by omega)
    simpa [hz1, Value.cells] using h
  go_enter Tryd.func26, Tryd.ntmps26
  go_wp2
  go_loopw [0, 5, 6] (fun q l i wr => ∃ (k : Nat) (x : Int), k ≤ n ∧ i = .int .i64 k ∧ q = .int .u64 x ∧ 0 ≤ x ∧ x ≤ 18446744073709551615 ∧ Hid (x = v / 256 ^ k) ∧ wr.ownsRow w.heap.size 5 1 l k ((lowL v k).map (Value.int .u8)) ∧ Below w.heap.size w wr)
    (fun _ _ i _ => n - (intOf i).toNat)
  case atStart => exact ⟨0, v, Nat.zero_le _, rfl, rfl, h0, h1, by simp [Hid], by simpa [lowL] using World.ownsRow_made w (madeCells #[.int .u8 0] n) n (Nat.le_refl _) (by simp [maxLen]; omega) (by simp [madeCells]), (Below.refl w.heap.size w).alloc (Nat.le_refl _) _⟩
  case round =>
    obtain ⟨k, x, hk, rfl, rfl, hx0, hx9, HX, hown, hbel⟩ := hrel
    by_cases hlt : k < n
    · have HL : Hid (lowL v (k + 1) = lowL v k ++ [x % 256]) := by unfold Hid; rw [lowL_succ, HX.out]
      have HX2 := quo256 HX
      have hx1 : 0 ≤ x / 256 := by omega
      have hx2 : x / 256 ≤ 18446744073709551615 := by omega
      have hx3 : x.tdiv 256 = x / 256 := Int.tdiv_eq_ediv_of_nonneg hx0
      have hx4 : IntKind.u64.wrap (x / 256) = x / 256 := by rw [IntKind.wrap_u64]; omega
      have hsz := hbel.size
      have m1 : (k : Int) < (n : Int) := by omega
      have hd1 : decide ((k : Int) < (n : Int)) = true := decide_eq_true m1
      clear HX
      go_wp2_with (
        (at_builtin; refine wpList_append_own _ rfl (.tmp 14) (.tmp 17) 22 rfl w.heap.size 5 i0 (.int .u8 0) 1 1 Tryd.underlying22 hi hz0 hz1 hz2 rfl (by decide) _ _ _ rfl (hown.alloc _) ⟨_, 0, none⟩ 1 1 [.int .u8 (x % 256)] rfl rfl (news_one _ _) (by simp [Value.oneCell']) (by simp [maxLen]; omega) (by omega) (by simp; omega) ?_; intro v2 w2 hown2 hgrow2 _))
      have hown3 : w2.ownsRow w.heap.size 5 1 v2 (k + 1) ((lowL v (k + 1)).map (Value.int .u8)) := by
        rw [HL.out, List.map_append]
        exact hown2
      have hbel3 := (hbel.alloc hbel.size _).grown hgrow2 (by simp; omega) (fun k hk => (hown.lt k hk).1)
      clear hown2 hgrow2 hown
      go_wp2
      go_roundw
      case rel => exact ⟨k + 1, _, by omega, by go_num, rfl, hx1, hx2, HX2, hown3, hbel3⟩
      case measure => simp [intOf]; omega
    · have hkn : k = n := by omega
      subst hkn
      obtain ⟨a, c, rfl, _⟩ := own_any hown (lowL_range v k)
      go_wp2
      go_ret
      exact ⟨a, c, rfl, hown, hbel⟩
end Go.Proofs.YtgdmagmbkmgdfaaDoor
