/-
  SEAT Ytgijbpkfheillaa: Good, Pick.
-/
import Derived.Test.YtgijbpkfheillaaBlI
namespace Go.Proofs.Ytgijbpkfheillaa
open Go.RowKit
set_option linter.unusedVariables false

theorem two_cells (w u : World) (hb : Below (w.heap.size + 1) (w.alloc (.cells #[.int .i64 6, .int .i64 4] 3)) u) : ∀ j, j < 2 → u.cell? ⟨w.heap.size, j, none⟩ = some (.int .i64 (([6, 4] : List Int).getD j 0)) := by
  intro j hj
  rw [hb.cell (by simp)]
  match j, hj with
  | 0, _ => simp
  | 1, _ => simp

set_option maxHeartbeats 1000000 in
theorem good_any (gb gk : Nat) (P : Int) (es : List Ent) (cur last vic : Int) (w : World) (h : BookAt w gb gk P es cur last vic) (hn : es.length ≤ 5000) :
    Calls Try.prog 11 #[.pointer (some ⟨gb, 0, none⟩)] w fun e w' => e = .returned (.int .i64 ((es.length : Int) - (cnt [6, 4] es es.length : Nat))) ∧ Below w.heap.size w w' := by
  have hcl := cnt_le [6, 4] es es.length
  have hwr : IntKind.i64.wrap ((es.length : Int) - (cnt [6, 4] es es.length : Nat)) = (es.length : Int) - (cnt [6, 4] es es.length : Nat) := by rw [IntKind.wrap_i64]; omega
  have HB : Hid (∀ u, Below w.heap.size w u → BookAt u gb gk P es cur last vic) := fun u hu => h.below hu
  have HK : Hid (∀ u, Below w.heap.size w u → (fun x : World => x.cell? ⟨gb, 1, none⟩ = some (.slice (some ⟨gk, 0, none⟩) es.length es.length)) u) := fun u hu => (h.below hu).cells.2.1
  have c1 := h.cells.2.1
  have a1 : Below w.heap.size w ((w.alloc (.cells #[.int .i64 6, .int .i64 4] 3)).drew) := ((Below.refl _ _).alloc (Nat.le_refl _) _).drew
  have r1 := count_any gb gk P es cur last vic w.heap.size 2 2 [6, 4] ((w.alloc (.cells #[.int .i64 6, .int .i64 4] 3)).drew) (h.below a1) hn rfl (by omega) (by simp) (two_cells w _ (Below.refl _ _).drew)
  have R1 : Hid _ := fun (_ : Unit) => r1
  have A1 : Hid _ := a1
  clear h r1 a1
  go_enter Try.func11, Try.ntmps11
  go_wp2
  go_region_held3 (fun x => x.cell? ⟨gb, 1, none⟩ = some (.slice (some ⟨gk, 0, none⟩) es.length es.length))
    ((first | exact HK.out _ (Below.refl _ _) | exact HK.out _ (Below.refl _ _).drew | exact HK.out _ A1.out | exact HK.out _ B1.out))
    ((first | (go_at_call 35; refine Calls.mono (R1.out ()) ?_; rintro e u1 ⟨rfl, q1⟩; have B1 : Hid (Below w.heap.size w u1) := A1.out.trans (q1.mono A1.out.size); clear q1)))
  all_goals go_wp2
  all_goals go_ret
  all_goals exact ⟨rfl, B1.out⟩

/-- The block that comes i behind the cursor. -/
def nthB (n : Nat) (cur : Int) (i : Nat) : Nat := ((cur + 1).toNat + i) % n
theorem nth_mod (n : Nat) (cur : Int) (i : Nat) (hn : 0 < n) (hc : -1 ≤ cur) : (cur + 1 + (i : Int)).tmod (n : Int) = ((nthB n cur i : Nat) : Int) := by
  have e : cur + 1 + (i : Int) = (((cur + 1).toNat + i : Nat) : Int) := by omega
  rw [e]
  unfold nthB
  exact Int.ofNat_tmod _ _
theorem nth_lt (n : Nat) (cur : Int) (i : Nat) (hn : 0 < n) : nthB n cur i < n := Nat.mod_lt _ hn

theorem gd1 (w : World) (k : Nat) (r : Option Nat) : w.grownBy (w.drewN k) r := ⟨rfl, rfl, rfl, Nat.le_refl _, fun _ _ _ => rfl⟩
theorem gd2 (w : World) (k m : Nat) (r : Option Nat) : w.grownBy ((w.drewN k).drewN m) r := ⟨rfl, rfl, rfl, Nat.le_refl _, fun _ _ _ => rfl⟩
theorem BookAt.cur {w : World} {gb gk : Nat} {P : Int} {es : List Ent} {cur last vic : Int} (h : BookAt w gb gk P es cur last vic) (c : Int) : BookAt (w.setCell ⟨gb, 2, none⟩ (.int .i64 c)) gb gk P es c last vic := by
  have hne := h.ne
  refine ⟨?_, ?_⟩
  · exact heap_setCell_same w gb 2 _ 69 (.int .i64 c) h.box
  · rw [heap_setCell_other _ _ _ _ (fun e => hne e.symm)]
    exact h.row
theorem BookAt.free2 {w : World} {gb gk : Nat} {P : Int} {es : List Ent} {cur last vic : Int} (h : BookAt w gb gk P es cur last vic) (j : Nat) : w.frozen? ⟨gb, j, none⟩ = false := by
  have := h.box
  simp [World.frozen?, this]

set_option maxHeartbeats 2000000 in
theorem pick_any (gb gk : Nat) (P : Int) (es : List Ent) (cur last vic : Int) (w : World) (h : BookAt w gb gk P es cur last vic) (hn : es.length ≤ 5000) (hn0 : 0 < es.length) (hc : -1 ≤ cur) (hc2 : cur < es.length) :
    Calls Try.prog 10 #[.pointer (some ⟨gb, 0, none⟩)] w fun e w' =>
      (∃ i, i < es.length ∧ (es.getD (nthB es.length cur i) Ent.zero).s = 0 ∧ (∀ j, j < i → (es.getD (nthB es.length cur j) Ent.zero).s ≠ 0) ∧ e = .returned (.tuple #[.int .i64 (nthB es.length cur i : Nat), .bool true]) ∧ BookAt w' gb gk P es (nthB es.length cur i : Nat) last vic ∧ w.grownBy w' (some gb)) ∨
      ((∀ j, j < es.length → (es.getD (nthB es.length cur j) Ent.zero).s ≠ 0) ∧ e = .returned (.tuple #[.int .i64 0, .bool false]) ∧ ∃ q, w' = w.drewN q) := by
  obtain ⟨c0, c1, c2, c3, c4⟩ := h.cells
  have HB : Hid (BookAt w gb gk P es cur last vic) := h
  clear h
  go_enter Try.func10, Try.ntmps10
  go_wp2
  go_loopw [4, 5, 11] (fun s4 s5 s11 wr => ∃ k : Nat, k ≤ es.length ∧ s11 = .int .i64 k ∧ Hid (∀ j, j < k → (es.getD (nthB es.length cur j) Ent.zero).s ≠ 0) ∧ ∃ q, wr = w.drewN q)
    (fun _ _ i _ => es.length - (intOf i).toNat)
  case atStart => exact ⟨0, Nat.zero_le _, rfl, fun j hj => absurd hj (Nat.not_lt_zero _), 0, rfl⟩
  case round =>
    obtain ⟨k, hk, rfl, HJ, q, rfl⟩ := hrel
    by_cases hlt : k < es.length
    · have hmod := nth_mod es.length cur k hn0 hc
      have hlt2 := nth_lt es.length cur k hn0
      obtain ⟨t, ht⟩ : ∃ t, nthB es.length cur k = t := ⟨_, rfl⟩
      rw [ht] at hmod hlt2
      obtain ⟨e0, e1, e2, e3, e4⟩ := HB.out.entry t hlt2
      obtain ⟨s, hs⟩ : ∃ s, (es.getD t Ent.zero).s = s := ⟨_, rfl⟩
      rw [hs] at e0
      have HT : Hid (nthB es.length cur k = t) := ht
      have HS : Hid ((es.getD t Ent.zero).s = s) := hs
      have d1 : (k : Int) < es.length := by omega
      have d2 : (t : Int) < es.length := by omega
      have d3 : IntKind.i64.wrap (cur + 1) = cur + 1 := by rw [IntKind.wrap_i64]; omega
      have d4 : IntKind.i64.wrap (cur + 1 + (k : Int)) = cur + 1 + (k : Int) := by rw [IntKind.wrap_i64]; omega
      have d5 : ¬ (es.length = 0) := by omega
      clear ht hs
      by_cases s0 : s = 0
      · subst s0
        have f2 := HB.out.free2 2
        go_wp2
        go_quiet (fail)
        go_wp2
        go_ret2
        exact Or.inl ⟨k, hlt, by rw [HT.out]; exact HS.out, HJ.out, by rw [HT.out]; rfl, by rw [HT.out]; exact (HB.out.drewN _).cur _, by first | exact grownBy_trans (gd1 w _ _) (grown_set _ gb 2 _) | exact grownBy_trans (gd2 w _ _ _) (grown_set _ gb 2 _)⟩
      · have s0b : (s == 0) = false := by simpa using s0
        go_wp2
        go_quiet (fail)
        go_wp2
        go_roundw
        case rel => exact ⟨k + 1, by omega, by go_num, fun j hj => by
          by_cases q : j = k
          · subst q; rw [HT.out, HS.out]; exact s0
          · exact HJ.out j (by omega), _, rfl⟩
        case measure => simp [intOf]; omega
    · have hkn : k = es.length := by omega
      subst hkn
      go_wp2
      go_ret2
      exact Or.inr ⟨HJ.out, rfl, _, rfl⟩
end Go.Proofs.Ytgijbpkfheillaa
