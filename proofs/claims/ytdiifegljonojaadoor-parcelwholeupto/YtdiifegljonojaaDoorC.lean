/-
  SEAT YtdiifegljonojaaDoor: same, roomy, kept.
-/
import Derived.Test.YtdiifegljonojaaDoorBase
namespace Go.Proofs.YtdiifegljonojaaDoor
open Go.RowKit
set_option linter.unusedVariables false

theorem same_eq (a a' : Option Addr) (n c c' : Nat) (zs : List Int) (w : World) (h : Reads w a n zs) (h' : Reads w a' n zs) :
    Calls Tryd.prog 25 #[.slice a n c, .slice a' n c'] w fun e w' => e = .returned (.bool true) ∧ w' = w := by
  have e1 := conv a n c zs w h
  have e2 := conv a' n c' zs w h'
  clear h h'
  go_enter Tryd.func25, Tryd.ntmps25
  go_wp2
  go_ret
  exact ⟨by simp, rfl⟩

theorem made_own (w : World) (n : Nat) (hn : n ≤ 9223372036854775807) : Own (w.alloc (.cells (madeCells #[.int .u8 0] n) 5)) w.heap.size w.heap.size 0 n [] := by
  simpa [Own] using World.ownsRow_made w (madeCells #[.int .u8 0] n) n (Nat.le_refl _) (by simp [maxLen]; omega) (by simp [madeCells])

def room (zs : List Int) (k : Nat) : List Int := zs ++ List.replicate k 92
theorem room_succ (zs : List Int) (k : Nat) : room zs (k + 1) = room zs k ++ [92] := by simp [room, List.replicate_succ']

set_option maxHeartbeats 400000 in
set_option maxRecDepth 100000 in
theorem roomy_any (a : Option Addr) (l cap : Nat) (zs : List Int) (w : World) (hl : l ≤ 140737488351232) (h : Reads w a l zs) :
    Calls Tryd.prog 10 #[.slice a l cap] w fun e w' => ∃ g c, e = .returned (.slice (some ⟨g, 0, none⟩) (l + 70) c) ∧ Own w' w.heap.size g (l + 70) c (room zs 70) ∧ Below w.heap.size w w' := by
  obtain ⟨i0, hi, hz0, hz1, hz2⟩ := info_parts info5
  have hlen := h.1
  have hmk : ∀ u : World, (Instr.makeSlice 22 (.int .i64 0) (.int .i64 ((l : Int) + 70))).run Tryd.prog u =
      .ok (.slice (some ⟨u.heap.size, 0, none⟩) 0 (l + 70)) (u.alloc (.cells (madeCells #[.int .u8 0] (l + 70)) 5)) := fun u => by
    have h := run_make (P := Tryd.prog) u 22 5 i0 (.int .u8 0) Tryd.underlying22 hi hz0 .i64 .i64 0 ((l : Int) + 70) (by omega) (by omega) (by rw [hz2]; omega) (by omega)
    have e : ((l : Int) + 70).toNat = l + 70 := by omega
    rw [e] at h
    simpa [hz1, Value.cells] using h
  have hm0 := made_own w (l + 70) (by omega)
  have rA := h.below ((Below.refl w.heap.size w).alloc (Nat.le_refl _) (.cells (madeCells #[.int .u8 0] (l + 70)) 5))
  go_enter Tryd.func10, Tryd.ntmps10
  go_wp2_with (at_builtin; refine wpList_append_reads rfl (.tmp 9) (.tmp 10) rfl w.heap.size _ _ [] rfl hm0 _ _ _ zs rfl rA (by omega) (by simp) ?_; intro v1 w1 hown1 hgrow1; simp only [Nat.zero_add, List.nil_append] at hown1)
  have bel1 : Below w.heap.size w w1 := ((Below.refl w.heap.size w).alloc (Nat.le_refl _) _).grown hgrow1 (by simp) (fun k hk => (World.ownsRow.lt hm0 k hk).1)
  go_loopw [3, 4] (fun v i wr => ∃ k : Nat, k ≤ 70 ∧ i = .int .i64 k ∧ wr.ownsRow w.heap.size 5 1 v (l + k) ((room zs k).map (Value.int .u8)) ∧ Below w.heap.size w wr)
    (fun _ i _ => 70 - (intOf i).toNat)
  case atStart => exact ⟨0, by omega, rfl, by simpa [room] using hown1, bel1⟩
  case round =>
    rename_i v wr
    obtain ⟨k, hk, rfl, hown, hbel⟩ := hrel
    by_cases hlt : k < 70
    · clear hown1 hgrow1
      go_wp2_with (
        (at_builtin; refine wpList_append_own _ rfl _ _ 22 rfl w.heap.size 5 i0 (.int .u8 0) 1 1 Tryd.underlying22 hi hz0 hz1 hz2 rfl (by decide) _ _ _ rfl (hown.alloc _) ⟨_, 0, none⟩ 1 1 [.int .u8 92] rfl rfl (news_one _ _) (by simp [Value.oneCell']) (by simp [maxLen]; omega) (by omega) (by have := hbel.size; simp; omega) ?_; intro v2 w2 hown2 hgrow2 _))
      have hown3 : w2.ownsRow w.heap.size 5 1 v2 (l + (k + 1)) ((room zs (k + 1)).map (Value.int .u8)) := by
        rw [room_succ, List.map_append]
        exact hown2
      have hbel3 := (hbel.alloc hbel.size _).grown hgrow2 (by have := hbel.size; simp; omega) (fun k hk => (hown.lt k hk).1)
      clear hown2 hgrow2 hown
      go_wp2
      go_roundw
      case rel => exact ⟨k + 1, by omega, by go_num, hown3, hbel3⟩
      case measure => simp [intOf]; omega
    · have hk7 : k = 70 := by omega
      subst hk7
      obtain ⟨g, c, rfl, _⟩ := own_shape hown (by omega)
      go_wp2
      go_ret
      exact ⟨g, c, rfl, hown, hbel⟩

theorem room_getD (zs : List Int) (i k : Nat) (h : i < zs.length) : (room zs k).getD i 0 = zs.getD i 0 := by
  simp [room, List.getD_eq_getElem?_getD, List.getElem?_append_left h]
theorem room_getD2 (zs : List Int) (i k : Nat) (h : zs.length ≤ i) (h2 : i < zs.length + k) : (room zs k).getD i 0 = 92 := by
  simp [room, List.getD_eq_getElem?_getD, List.getElem?_append_right h, List.getElem?_replicate]
  rw [if_pos (by omega)]
  rfl

theorem Own.front {w : World} {B g n cap m : Nat} {xs : List Value} (h : w.ownsRow B 5 1 (.slice (some ⟨g, 0, none⟩) n cap) n xs) (hm : m ≤ n) : w.ownsRow B 5 1 (.slice (some ⟨g, 0, none⟩) m cap) m (xs.take m) := by
  obtain ⟨h1, h2⟩ := h
  refine ⟨by simp at h1 ⊢; omega, ?_⟩
  rcases h2 with ⟨h3, _⟩ | ⟨g', cap', cur, hv, hb, hg, hn, hc, hs, ht⟩
  · simp at h3
  · simp only [Value.slice.injEq, Option.some.injEq, Addr.mk.injEq, and_true, true_and] at hv
    obtain ⟨rfl, rfl⟩ := hv
    refine Or.inr ⟨g, cap, cur, rfl, hb, hg, by omega, hc, hs, ?_⟩
    rw [← ht, List.take_take]
    congr 1
    omega

theorem room_range (zs : List Int) (k : Nat) (h : ∀ x ∈ zs, 0 ≤ x ∧ x ≤ 255) : ∀ x ∈ room zs k, 0 ≤ x ∧ x ≤ 255 := by
  intro x hx
  rcases List.mem_append.1 hx with h1 | h1
  · exact h x h1
  · have := (List.mem_replicate.1 h1).2; omega

theorem Own.apart {w w' : World} {B g n cap g' : Nat} {xs : List Int} (h : Own w B g n cap xs) (hg : w.grownBy w' (some g')) (hne : g ≠ g') : Own w' B g n cap xs :=
  World.ownsRow.kept h hg (Or.inr (by simp [Value.ownBlock]; exact hne))

theorem Own.all {w : World} {B g n cap : Nat} {xs : List Int} (h : Own w B g n cap xs) (hr : ∀ x ∈ xs, 0 ≤ x ∧ x ≤ 255) : Reads w (some ⟨g, 0, none⟩) n xs := by
  have h1 := h.reads hr n (Nat.le_refl _)
  have hl := h.len
  rwa [List.take_of_length_le (by omega)] at h1


theorem Own.room_le {w : World} {B g n cap : Nat} {xs : List Int} (h : Own w B g n cap xs) (hn : 0 < n) : n ≤ cap ∧ cap ≤ maxLen := by
  obtain ⟨g', c', h1, h2, h3, _⟩ := own_shape h hn
  simp only [Value.slice.injEq, true_and] at h1
  obtain ⟨_, rfl⟩ := h1
  exact ⟨h2, h3⟩

set_option maxHeartbeats 400000 in
set_option maxRecDepth 100000 in
theorem kept_any (B g c n cap : Nat) (a : Option Addr) (zs : List Int) (w : World) (hr : n ≤ 140737488351232) (h : Reads w a n zs) (hown : Own w B g (n + 70) c (room zs 70)) :
    Calls Tryd.prog 14 #[.slice (some ⟨g, 0, none⟩) (n + 70) c, .slice a n cap] w fun e w' => e = .returned (.bool true) ∧ w' = w := by
  have hlen := h.1
  obtain ⟨hc1, hc2⟩ := hown.room_le (by omega)
  have hc3 : c ≤ 9223372036854775807 := by unfold maxLen at hc2; omega
  have hn1 : n ≤ c := by omega
  have hrd : Reads w (some ⟨g, 0, none⟩) n zs := by
    have := hown.reads (room_range zs 70 h.2.1) n (by omega)
    rwa [show (room zs 70).take n = zs by rw [room, List.take_left' hlen]] at this
  have hcy : ∀ m, n ≤ m → m < n + 70 → w.cell? ⟨g, m, none⟩ = some (.int .u8 92) := fun m h1 h2 => by
    rw [← room_getD2 zs m 70 (by omega) (by omega)]; exact hown.cell m (by omega)
  have HCY : Hid _ := hcy
  clear hc2 hc1 hown hcy
  go_enter Tryd.func14, Tryd.ntmps14
  go_wp2_with (go_at_call 25; refine (same_eq _ _ _ _ _ zs _ hrd h).mono ?_; rintro e u1 ⟨rfl, rfl⟩)
  go_loopw [5] (fun i wr => ∃ m : Nat, n ≤ m ∧ m ≤ n + 70 ∧ i = .int .i64 m ∧ wr = u1)
    (fun i _ => n + 70 - (intOf i).toNat)
  case atStart => exact ⟨n, Nat.le_refl _, by omega, rfl, rfl⟩
  case round =>
    obtain ⟨m, hm1, hm2, rfl, rfl⟩ := hrel
    by_cases hlt2 : m < n + 70
    · have hcy := HCY.out m hm1 hlt2
      have i2 : (m : Int) < (n : Int) + 70 := by omega
      have hd1 : decide ((m : Int) < (n : Int) + 70) = true := decide_eq_true i2
      clear h hrd hlen
      go_wp2
      go_roundw
      case rel => exact ⟨m + 1, by omega, by omega, by go_num, (by first | rfl | trivial)⟩
      case measure => simp [intOf]; omega
    · have hmk : m = n + 70 := by omega
      subst hmk
      go_wp2
      go_ret
      exact ⟨rfl, rfl⟩

end Go.Proofs.YtdiifegljonojaaDoor
