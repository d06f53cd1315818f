/-
  SEAT Ytkcpfcnpniblcab: Unhex.
-/
import Derived.Test.YtkcpfcnpniblcabHy
namespace Go.Proofs.Ytkcpfcnpniblcab
open Go.RowKit
set_option linter.unusedVariables false

/-- The byte of a text at a place. -/
def ch (s : ByteArray) (i : Nat) : Int := ((s.data.getD i 0).toNat : Int)
theorem ch_range (s : ByteArray) (i : Nat) : 0 ≤ ch s i ∧ ch s i ≤ 255 := by
  unfold ch
  have := (s.data.getD i 0).toNat_lt
  omega
theorem ch_at (s : ByteArray) (i : Nat) (h : i < s.size) : ((s[i]'h).toNat : Int) = ch s i := by
  unfold ch
  have e : s.data.getD i 0 = s[i] := by
    have h' : i < s.data.size := h
    rw [Array.getD, dif_pos h']
    rfl
  rw [e]
/-- The byte that two digits are. -/
def uh (s : ByteArray) (i : Nat) : Int := 16 * dg (ch s (2 * i)) + dg (ch s (2 * i + 1))
/-- Are the first k pairs digits? -/
def Dig (s : ByteArray) (k : Nat) : Prop := ∀ i, i < k → 0 ≤ dg (ch s (2 * i)) ∧ 0 ≤ dg (ch s (2 * i + 1))
def uhL (s : ByteArray) (k : Nat) : List Int := (List.range k).map (uh s)
theorem uhL_length (s : ByteArray) (k : Nat) : (uhL s k).length = k := by simp [uhL]
theorem uhL_succ (s : ByteArray) (k : Nat) : uhL s (k + 1) = uhL s k ++ [uh s k] := by simp [uhL, List.range_succ]
theorem uhL_range (s : ByteArray) (k : Nat) (h : Dig s k) : ∀ x ∈ uhL s k, 0 ≤ x ∧ x ≤ 255 := by
  intro x hx
  obtain ⟨i, hi, rfl⟩ := List.mem_map.1 hx
  have h1 := h i (List.mem_range.1 hi)
  have h2 := dg_range (ch s (2 * i))
  have h3 := dg_range (ch s (2 * i + 1))
  unfold uh
  omega
theorem Dig.succ {s : ByteArray} {k : Nat} (h : Dig s k) (h0 : 0 ≤ dg (ch s (2 * k))) (h1 : 0 ≤ dg (ch s (2 * k + 1))) : Dig s (k + 1) := fun i hi => by
  by_cases e : i = k
  · subst e; exact ⟨h0, h1⟩
  · exact h i (by omega)

theorem unhex_odd (s : ByteArray) (w : World) (hs : s.size ≤ 281474976710656) (ho : s.size % 2 = 1) :
    Calls Try.prog 20 #[.string s] w fun e w' => e = .returned (.tuple #[.slice none 0 0, .int .i64 12]) ∧ w = w' := by
  have h1 : (s.size : Int) % 2 = 1 := by omega
  go_enter Try.func20, Try.ntmps20
  go_wp2
  go_ret2
  exact ⟨rfl, rfl⟩

theorem runhex_odd (s : ByteArray) (w : World) (hs : s.size ≤ 281474976710656) (ho : s.size % 2 = 1) :
    Calls Try.prog 19 #[.string s] w fun e w' => e = .returned (.tuple #[.slice none 0 0, .int .i64 12]) ∧ w = w' := by
  have h1 : (s.size : Int) % 2 = 1 := by omega
  go_enter Try.func19, Try.ntmps19
  go_wp2
  go_ret2
  exact ⟨rfl, rfl⟩

theorem worth_any (c : Int) (h0 : 0 ≤ c) (h1 : c ≤ 255) : ∃ (v : Int) (b : Bool), (∀ w : World, Calls Try.prog 30 #[.int .u8 c] w fun e w' => e = .returned (.tuple #[.int .u8 v, .bool b]) ∧ w = w') ∧ (b = true → 0 ≤ dg c ∧ v = dg c) ∧ (b = false → dg c < 0) := by
  by_cases h : 0 ≤ dg c
  · exact ⟨dg c, true, fun w => worth_yes c h0 h1 w h, fun _ => ⟨h, rfl⟩, fun h => by cases h⟩
  · exact ⟨0, false, fun w => worth_no c h0 h1 w (by omega), (fun h => by cases h), fun _ => by omega⟩

theorem shl_or : ∀ a : Nat, a < 16 → ∀ b : Nat, b < 16 → (a * 16) ||| b = 16 * a + b := by decide +kernel

set_option maxHeartbeats 1000000 in
theorem unhex_even (s : ByteArray) (m : Nat) (w : World) (hm : s.size = 2 * m) (hs : m ≤ 140737488351232) :
    Calls Try.prog 20 #[.string s] w fun e w' => ((Dig s m ∧ ∃ g c, e = .returned (.tuple #[.slice (some ⟨g, 0, none⟩) m c, .int .i64 0]) ∧ Own w' w.heap.size g m c (uhL s m)) ∨ (¬ Dig s m ∧ e = .returned (.tuple #[.slice none 0 0, .int .i64 12]))) ∧ Below w.heap.size w w' := by
  obtain ⟨i0, hi, hz0, hz1, hz2⟩ := info_parts info5
  have hmk : ∀ u : World, (Instr.makeSlice 22 (.int .i64 (m : Int)) (.int .i64 (m : Int))).run Try.prog u =
      .ok (.slice (some ⟨u.heap.size, 0, none⟩) m m) (u.alloc (.cells (madeCells #[.int .u8 0] m) 5)) := fun u => by
    have h := run_make (P := Try.prog) u 22 5 i0 (.int .u8 0) Try.underlying22 hi hz0 .i64 .i64 (m : Int) (m : Int) (by omega) (Int.le_refl _) (by rw [hz2]; omega) (by omega)
    simpa [hz1, Value.cells] using h
  have hmf := made_full w m (by omega)
  have e1 : (s.size : Int) % 2 = 0 := by omega
  have e2 : (s.size : Int) / 2 = (m : Int) := by omega
  have e3 : (s.size : Int).tdiv 2 = (m : Int) := by rw [Int.tdiv_eq_ediv_of_nonneg (by omega)]; exact e2
  have e4 : (s.size : Int).tmod 2 = 0 := by rw [Int.tmod_eq_emod_of_nonneg (by omega)]; exact e1
  go_enter Try.func20, Try.ntmps20
  go_wp2
  go_loopw [20] (fun i wr => ∃ k : Nat, k ≤ m ∧ i = .int .i64 k ∧ Own wr w.heap.size w.heap.size m m (uhL s k ++ List.replicate (m - k) 0) ∧ Below w.heap.size w wr ∧ Hid (Dig s k))
    (fun i _ => m - (intOf i).toNat)
  case atStart => exact ⟨0, Nat.zero_le _, rfl, by simpa [uhL] using hmf, (Below.refl w.heap.size w).alloc (Nat.le_refl _) _, fun i hi => by omega⟩
  case round =>
    obtain ⟨k, hk, rfl, hown, hbel, HD⟩ := hrel
    by_cases hlt : k < m
    · have l1 : 2 * k < s.size := by omega
      have l2 : 2 * k + 1 < s.size := by omega
      obtain ⟨p, hp⟩ : ∃ p : Int, ((s[2 * k]'l1).toNat : Int) = p := ⟨_, rfl⟩
      obtain ⟨q, hq⟩ : ∃ q : Int, ((s[2 * k + 1]'l2).toNat : Int) = q := ⟨_, rfl⟩
      have hp2 : ch s (2 * k) = p := by rw [← hp, ch_at]
      have hq2 : ch s (2 * k + 1) = q := by rw [← hq, ch_at]
      obtain ⟨p0, p1⟩ : 0 ≤ p ∧ p ≤ 255 := by rw [← hp2]; exact ch_range s _
      obtain ⟨q0, q1⟩ : 0 ≤ q ∧ q ≤ 255 := by rw [← hq2]; exact ch_range s _
      obtain ⟨vp, bp, WP, bp1, bp2⟩ := worth_any p p0 p1
      obtain ⟨vq, bq, WQ, bq1, bq2⟩ := worth_any q q0 q1
      have HWP : Hid _ := WP
      have HWQ : Hid _ := WQ
      have i1 : (k : Int) < (m : Int) := by omega
      have hd1 : decide ((k : Int) < (m : Int)) = true := decide_eq_true i1
      have hcy := hown.cell k hlt
      have hfz : wr.frozen? ⟨w.heap.size, k, none⟩ = false := World.ownsRow.frozenAt hown k
      have g1 : Hid True := trivial
      cases bp with
      | false =>
        have HND : Hid (¬ Dig s m) := fun h => by have := (h k hlt).1; rw [hp2] at this; have := bp2 rfl; omega
        clear WP WQ bp1 bp2 bq1 bq2 hp2 hq2 HD
        go_wp2_with (first
          | (go_at_call 30; have h9 := g1; clear h9; refine Calls.mono (HWP.out _) ?_; rintro e u ⟨rfl, rfl⟩; clear g1)
          | (go_at_call 30; refine Calls.mono (HWQ.out _) ?_; rintro e u ⟨rfl, rfl⟩))
        go_ret2
        exact ⟨Or.inr ⟨HND.out, rfl⟩, hbel⟩
      | true =>
        obtain ⟨dp0, rfl⟩ := bp1 rfl
        cases bq with
        | false =>
          have HND : Hid (¬ Dig s m) := fun h => by have := (h k hlt).2; rw [hq2] at this; have := bq2 rfl; omega
          clear WP WQ bp1 bp2 bq1 bq2 hp2 hq2 HD
          go_wp2_with (first
            | (go_at_call 30; have h9 := g1; clear h9; refine Calls.mono (HWP.out _) ?_; rintro e u ⟨rfl, rfl⟩; clear g1)
            | (go_at_call 30; refine Calls.mono (HWQ.out _) ?_; rintro e u ⟨rfl, rfl⟩))
          go_ret2
          exact ⟨Or.inr ⟨HND.out, rfl⟩, hbel⟩
        | true =>
          obtain ⟨dq0, rfl⟩ := bq1 rfl
          have dpr := dg_range p
          have dqr := dg_range q
          have HD2 : Hid (Dig s (k + 1)) := HD.out.succ (by rw [hp2]; exact dp0) (by rw [hq2]; exact dq0)
          have hU : bits .or .u8 (dg p * 16) (dg q) = uh s k := by
            obtain ⟨a, ha⟩ := Int.eq_ofNat_of_zero_le dp0
            obtain ⟨b, hb⟩ := Int.eq_ofNat_of_zero_le dq0
            have e8 : uh s k = 16 * dg p + dg q := by unfold uh; rw [hp2, hq2]
            rw [e8, ha, hb]
            have h8 := u8_or_nat (a * 16) b (by omega) (by omega)
            rw [shl_or a (by omega) b (by omega)] at h8
            simpa using h8
          have hS := hown.set k (bits .or .u8 (dg p * 16) (dg q))
          have HS : Hid (Own (wr.setCell ⟨w.heap.size, k, none⟩ (.int .u8 (bits .or .u8 (dg p * 16) (dg q)))) w.heap.size w.heap.size m m (uhL s (k + 1) ++ List.replicate (m - (k + 1)) 0)) := by
            have h1 := hS.1
            rw [grow_set (uhL s k) (uhL_length _ _) m hlt] at h1
            rw [uhL_succ, ← hU]
            exact h1
          have HB : Hid (Below w.heap.size w (wr.setCell ⟨w.heap.size, k, none⟩ (.int .u8 (bits .or .u8 (dg p * 16) (dg q))))) := hbel.setCell (Nat.le_refl _) _
          clear hU hS hown
          clear WP WQ bp1 bp2 bq1 bq2 hp2 hq2 HD
          go_wp2_with (first
            | (go_at_call 30; have h9 := g1; clear h9; refine Calls.mono (HWP.out _) ?_; rintro e u ⟨rfl, rfl⟩; clear g1)
            | (go_at_call 30; refine Calls.mono (HWQ.out _) ?_; rintro e u ⟨rfl, rfl⟩))
          go_roundw
          case rel => exact ⟨k + 1, by omega, by go_num, HS.out, HB.out, HD2⟩
          case measure => simp [intOf]; omega
    · have hkm : k = m := by omega
      subst hkm
      rw [Nat.sub_self, List.replicate_zero, List.append_nil] at hown
      go_wp2
      go_ret2
      exact ⟨Or.inl ⟨HD.out, _, _, rfl, hown⟩, hbel⟩

set_option maxHeartbeats 1000000 in
theorem runhex_even (s : ByteArray) (m : Nat) (w : World) (hm : s.size = 2 * m) (hs : m ≤ 140737488351232) :
    Calls Try.prog 19 #[.string s] w fun e w' => ((Dig s m ∧ ∃ g c, e = .returned (.tuple #[.slice (some ⟨g, 0, none⟩) m c, .int .i64 0]) ∧ Own w' w.heap.size g m c (uhL s m)) ∨ (¬ Dig s m ∧ e = .returned (.tuple #[.slice none 0 0, .int .i64 12]))) ∧ Below w.heap.size w w' := by
  obtain ⟨i0, hi, hz0, hz1, hz2⟩ := info_parts info5
  have e1 : (s.size : Int) % 2 = 0 := by omega
  have e4 : (s.size : Int).tmod 2 = 0 := by rw [Int.tmod_eq_emod_of_nonneg (by omega)]; exact e1
  go_enter Try.func19, Try.ntmps19
  go_wp2
  go_loopw [4, 5] (fun v i wr => ∃ k g c : Nat, k ≤ m ∧ i = .int .i64 (2 * (k : Int)) ∧ v = .slice (some ⟨g, 0, none⟩) k c ∧ Own wr w.heap.size g k c (uhL s k) ∧ Below w.heap.size w wr ∧ Hid (Dig s k))
    (fun _ i _ => s.size - (intOf i).toNat)
  case atStart => exact ⟨0, w.heap.size, 0, Nat.zero_le _, rfl, rfl, by simpa [Own, uhL] using World.ownsRow_made w #[] 0 (Nat.le_refl _) (by simp [maxLen]) rfl, (Below.refl w.heap.size w).alloc (Nat.le_refl _) _, fun i hi => by omega⟩
  case round =>
    obtain ⟨k, g, c, hk, rfl, rfl, hown, hbel, HD⟩ := hrel
    by_cases hlt : k < m
    · have l1 : 2 * k < s.size := by omega
      have l2 : 2 * k + 1 < s.size := by omega
      obtain ⟨p, hp⟩ : ∃ p : Int, ((s[2 * k]'l1).toNat : Int) = p := ⟨_, rfl⟩
      obtain ⟨q, hq⟩ : ∃ q : Int, ((s[2 * k + 1]'l2).toNat : Int) = q := ⟨_, rfl⟩
      have hp2 : ch s (2 * k) = p := by rw [← hp, ch_at]
      have hq2 : ch s (2 * k + 1) = q := by rw [← hq, ch_at]
      obtain ⟨p0, p1⟩ : 0 ≤ p ∧ p ≤ 255 := by rw [← hp2]; exact ch_range s _
      obtain ⟨q0, q1⟩ : 0 ≤ q ∧ q ≤ 255 := by rw [← hq2]; exact ch_range s _
      have WP := digit_any p p0 p1
      have WQ := digit_any q q0 q1
      obtain ⟨x, hx⟩ : ∃ x, dg p = x := ⟨_, rfl⟩
      obtain ⟨y, hy⟩ : ∃ y, dg q = y := ⟨_, rfl⟩
      obtain ⟨x0, x1⟩ : -1 ≤ x ∧ x ≤ 15 := by rw [← hx]; exact dg_range p
      obtain ⟨y0, y1⟩ : -1 ≤ y ∧ y ≤ 15 := by rw [← hy]; exact dg_range q
      rw [hx] at WP
      rw [hy] at WQ
      have HWP : Hid _ := WP
      have HWQ : Hid _ := WQ
      have i1 : 2 * (k : Int) < (s.size : Int) := by omega
      have hd1 : decide (2 * (k : Int) < (s.size : Int)) = true := decide_eq_true i1
      have g1 : Hid True := trivial
      by_cases hxn : x < 0
      · have HND : Hid (¬ Dig s m) := fun h => by have := (h k hlt).1; rw [hp2, hx] at this; omega
        clear WP WQ hp2 hq2 HD hx hy
        go_wp2_with (first
          | (go_at_call 29; have h9 := g1; clear h9; refine Calls.mono (HWP.out _) ?_; rintro e u ⟨rfl, rfl⟩; clear g1)
          | (go_at_call 29; refine Calls.mono (HWQ.out _) ?_; rintro e u ⟨rfl, rfl⟩))
        go_ret2
        exact ⟨Or.inr ⟨HND.out, rfl⟩, hbel⟩
      · by_cases hyn : y < 0
        · have HND : Hid (¬ Dig s m) := fun h => by have := (h k hlt).2; rw [hq2, hy] at this; omega
          clear WP WQ hp2 hq2 HD hx hy
          go_wp2_with (first
            | (go_at_call 29; have h9 := g1; clear h9; refine Calls.mono (HWP.out _) ?_; rintro e u ⟨rfl, rfl⟩; clear g1)
            | (go_at_call 29; refine Calls.mono (HWQ.out _) ?_; rintro e u ⟨rfl, rfl⟩))
          go_ret2
          exact ⟨Or.inr ⟨HND.out, rfl⟩, hbel⟩
        · have HD2 : Hid (Dig s (k + 1)) := HD.out.succ (by rw [hp2, hx]; omega) (by rw [hq2, hy]; omega)
          have HU : Hid (uh s k = 16 * x + y) := by unfold Hid uh; rw [hp2, hq2, hx, hy]
          have hsz := hbel.size
          unfold Own at hown
          clear WP WQ hp2 hq2 HD hx hy
          go_wp2_with (first
            | (go_at_call 29; have h9 := g1; clear h9; refine Calls.mono (HWP.out _) ?_; rintro e u ⟨rfl, rfl⟩; clear g1)
            | (go_at_call 29; refine Calls.mono (HWQ.out _) ?_; rintro e u ⟨rfl, rfl⟩)
            | (at_builtin; refine wpList_append_own _ rfl (.tmp 34) (.tmp 40) 22 rfl w.heap.size 5 i0 (.int .u8 0) 1 1 Try.underlying22 hi hz0 hz1 hz2 rfl (by decide) _ _ _ rfl (hown.alloc _) ⟨wr.heap.size, 0, none⟩ 1 1 [.int .u8 (16 * x + y)] rfl rfl (news_one _ _) (by simp [Value.oneCell']) (by simp [maxLen]; omega) (by omega) (by simp; omega) ?_; intro v1 w1 hown1 hgrow1 _; obtain ⟨g2, c2, hv1, hc2, hm2, hbg, hgl⟩ := own_shape hown1 (by omega); subst hv1))
          have hown2 : Own w1 w.heap.size g2 (k + 1) c2 (uhL s (k + 1)) := by
            unfold Own
            rw [uhL_succ, HU.out, List.map_append]
            exact hown1
          have hbel2 : Below w.heap.size w w1 := (hbel.alloc hbel.size _).grown hgrow1 (by simp; omega) (fun k hk => (hown.lt k hk).1)
          clear hown1 hgrow1 hown
          go_wp2
          go_roundw
          case rel => exact ⟨k + 1, g2, c2, by omega, by go_num, rfl, hown2, hbel2, HD2⟩
          case measure => simp [intOf]; omega
    · have hkm : k = m := by omega
      subst hkm
      have i1 : ¬ (2 * (k : Int) < (s.size : Int)) := by omega
      go_wp2
      go_ret2
      exact ⟨Or.inl ⟨HD.out, _, _, rfl, hown⟩, hbel⟩
end Go.Proofs.Ytkcpfcnpniblcab
