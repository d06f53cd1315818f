/-
  SEAT Ytoaahellfflooaa.
-/
import Derived.Test.YtoaahellfflooaaVKC
namespace Go.Proofs.Ytoaahellfflooaa
open Go.RowKit
set_option linter.unusedVariables false

def catL (X : Nat → List Int) : Nat → List Int
  | 0 => []
  | k + 1 => catL X k ++ X k
def sumL (ls : Nat → Nat) : Nat → Nat
  | 0 => 0
  | k + 1 => sumL ls k + ls k
theorem sumL_le (ls : Nat → Nat) {k m : Nat} (h : k ≤ m) : sumL ls k ≤ sumL ls m := by
  induction m with
  | zero => have : k = 0 := by omega
            subst this; exact Nat.le_refl _
  | succ m ih =>
    by_cases e : k = m + 1
    · subst e; exact Nat.le_refl _
    · have := ih (by omega)
      simp only [sumL]
      omega

/-- Parts in a list. -/
structure Parts (w : World) (ga : Option Addr) (m : Nat) (av : Nat → Option Addr) (ls cs : Nat → Nat) (X : Nat → List Int) : Prop where
  outer : ∀ i, i < m → ∃ g, ga = some ⟨g, 0, none⟩ ∧ g < w.heap.size ∧ w.cell? ⟨g, i, none⟩ = some (.slice (av i) (ls i) (cs i))
  reads : ∀ i, i < m → Reads w (av i) (ls i) (X i)

theorem catL_length (X : Nat → List Int) (ls : Nat → Nat) (m : Nat) (h : ∀ i, i < m → (X i).length = ls i) : (catL X m).length = sumL ls m := by
  induction m with
  | zero => rfl
  | succ m ih => simp only [catL, sumL, List.length_append, ih (fun i hi => h i (by omega)), h m (by omega)]

set_option maxHeartbeats 400000 in
theorem join_parts (ga : Option Addr) (m cm : Nat) (av : Nat → Option Addr) (ls cs : Nat → Nat) (X : Nat → List Int) (w : World) (hm : m ≤ 100) (hT : sumL ls m ≤ 100000000) (h : Parts w ga m av ls cs X) :
    Calls Try.prog 66 #[.slice ga m cm] w fun e w' => ∃ v, e = .returned v ∧ w'.ownsRow w.heap.size 5 1 v (sumL ls m) ((catL X m).map (Value.int .u8)) ∧ Below w.heap.size w w' := by
  obtain ⟨i0, hi, hz0, hz1, hz2⟩ := info_parts info5
  have HP : Hid (Parts w ga m av ls cs X) := h
  obtain ⟨T, hTT⟩ : ∃ T, T = sumL ls m := ⟨_, rfl⟩
  rw [← hTT]
  have HS : Hid (∀ k, k ≤ m → sumL ls k ≤ T) := fun k hk => by rw [hTT]; exact sumL_le ls hk
  have hT' : T ≤ 100000000 := by rw [hTT]; exact hT
  have HTT : Hid (T = sumL ls m) := hTT
  have hmk : ∀ u : World, (Instr.makeSlice 22 (.int .i64 0) (.int .i64 (T : Int))).run Try.prog u =
      .ok (.slice (some ⟨u.heap.size, 0, none⟩) 0 T) (u.alloc (.cells (madeCells #[.int .u8 0] T) 5)) := fun u => by
    have h := run_make (P := Try.prog) u 22 5 i0 (.int .u8 0) Try.underlying22 hi hz0 .i64 .i64 0 (T : Int) (by omega) (by omega) (by rw [hz2]; omega) (by omega)
    simpa [hz1, Value.cells] using h
  clear h hTT hT
  go_enter Try.func66, Try.ntmps66
  go_wp2
  go_loopw [3, 11] (fun n i wr => ∃ k s : Nat, k ≤ m ∧ i = .int .i64 k ∧ n = .int .i64 s ∧ Hid (s = sumL ls k) ∧ w = wr)
    (fun _ i _ => m - (intOf i).toNat)
  case atStart => exact ⟨0, 0, Nat.zero_le _, rfl, rfl, rfl, rfl⟩
  case round =>
    obtain ⟨k, s, hk, rfl, rfl, HK, rfl⟩ := hrel
    by_cases hlt : k < m
    · obtain ⟨g, rfl, hgl, hc⟩ := HP.out.outer k hlt
      obtain ⟨a, ha⟩ : ∃ a, a = av k := ⟨_, rfl⟩
      obtain ⟨l, hl⟩ : ∃ l, l = ls k := ⟨_, rfl⟩
      obtain ⟨c, hc'⟩ : ∃ c, c = cs k := ⟨_, rfl⟩
      rw [← ha, ← hl, ← hc'] at hc
      have hsl : s + l ≤ T := by
        have := HS.out (k + 1) (by omega)
        rw [sumL, ← hl, ← HK.out] at this
        exact this
      have HK2 : Hid (s + l = sumL ls (k + 1)) := by unfold Hid; rw [sumL, ← hl, ← HK.out]
      have m1 : (k : Int) < (m : Int) := by omega
      have hd1 : decide ((k : Int) < (m : Int)) = true := decide_eq_true m1
      clear ha hl hc' HK
      go_wp2
      go_roundw
      case rel => exact ⟨k + 1, s + l, by omega, by go_num, by simp, HK2, by first | rfl | trivial⟩
      case measure => simp [intOf]; omega
    · have hkm : k = m := by omega
      subst hkm
      obtain rfl : s = T := by rw [HK.out, HTT.out]
      go_wp2
      go_loopw [6, 24] (fun v i wr => ∃ j : Nat, j ≤ k ∧ i = .int .i64 j ∧ wr.ownsRow w.heap.size 5 1 v (sumL ls j) ((catL X j).map (Value.int .u8)) ∧ Below w.heap.size w wr)
        (fun _ i _ => k - (intOf i).toNat)
      case atStart => exact ⟨0, Nat.zero_le _, rfl, by simpa [catL, sumL] using World.ownsRow_made w (madeCells #[.int .u8 0] s) s (Nat.le_refl _) (by simp [maxLen]; omega) (by simp [madeCells]), (Below.refl w.heap.size w).alloc (Nat.le_refl _) _⟩
      case round =>
        obtain ⟨j, hj, rfl, hown, hbel⟩ := hrel
        by_cases hlt2 : j < k
        · obtain ⟨g, rfl, hgl, hc⟩ := HP.out.outer j hlt2
          have hrd := (HP.out.reads j hlt2).below hbel
          have hcx := (hbel.cell (p := ⟨g, j, none⟩) hgl).trans hc
          obtain ⟨a, ha⟩ : ∃ a, a = av j := ⟨_, rfl⟩
          obtain ⟨l, hl⟩ : ∃ l, l = ls j := ⟨_, rfl⟩
          obtain ⟨c, hc'⟩ : ∃ c, c = cs j := ⟨_, rfl⟩
          obtain ⟨n, hn⟩ : ∃ n, n = sumL ls j := ⟨_, rfl⟩
          rw [← ha, ← hl, ← hc'] at hcx
          rw [← ha, ← hl] at hrd
          rw [← hn] at hown
          have hnl : n + l ≤ s := by
            have := HS.out (j + 1) (by omega)
            rw [sumL, ← hl, ← hn] at this
            exact this
          have HN : Hid (n + l = sumL ls (j + 1)) := by unfold Hid; rw [sumL, ← hl, ← hn]
          have m1 : (j : Int) < (k : Int) := by omega
          have hd1 : decide ((j : Int) < (k : Int)) = true := decide_eq_true m1
          have hsz := hbel.size
          clear ha hl hc' hc hn
          go_wp2_with (
            (at_builtin; refine wpList_append_reads rfl (.tmp 28) (.tmp 29) rfl w.heap.size _ n (catL X j) rfl hown _ _ _ (X j) rfl hrd (by omega) hsz ?_; intro v2 w2 hown2 hgrow2))
          have hown3 : w2.ownsRow w.heap.size 5 1 v2 (sumL ls (j + 1)) ((catL X (j + 1)).map (Value.int .u8)) := by
            rw [← HN.out]
            exact hown2
          have hbel3 := hbel.grown hgrow2 hbel.size (fun q hq => (hown.lt q hq).1)
          clear hown2 hgrow2 hown hrd
          go_wp2
          go_roundw
          case rel => exact ⟨j + 1, by omega, by go_num, hown3, hbel3⟩
          case measure => simp [intOf]; omega
        · have hjk : k = j := by omega
          subst hjk
          rw [← HTT.out] at hown
          go_wp2
          go_ret
          exact ⟨_, rfl, hown, hbel⟩
end Go.Proofs.Ytoaahellfflooaa
