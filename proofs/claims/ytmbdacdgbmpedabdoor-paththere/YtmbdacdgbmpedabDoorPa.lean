/-
  SEAT YtmbdacdgbmpedabDoor: Parent.
-/
import Derived.Test.YtmbdacdgbmpedabDoorEc
namespace Go.Proofs.YtmbdacdgbmpedabDoor
open Go.RowKit
set_option linter.unusedVariables false

theorem par_len {s x : ByteArray} {M : List ByteArray} (h0 : spE s = 0) (hn : spN s = M ++ [x]) : M.length ≤ 64 := by
  have h2 := (sp_facts h0).2.2.2.1
  rw [← (sp_facts h0).2.2.2.2.2, hn] at h2
  simp at h2; omega

set_option maxHeartbeats 2000000 in
set_option maxRecDepth 100000 in
theorem parent_any (s : ByteArray) (w : World) (hs : s.size ≤ 9223372036854775807) : Calls Tryd.prog 8 #[.string s] w fun e w' => ∃ v, e = .returned (.tuple #[v, .string (paL s), .int .i64 (paE s)]) ∧ Ow w' w.heap.size v (paN s) ∧ Below w.heap.size w w' := by
  rcases pa_ways s with ⟨h0, hE, hN, hL⟩ | ⟨h0, hn, hE, hN, hL⟩ | ⟨h0, M, x, hn, ⟨hu, hE, hN, hL⟩ | ⟨hu, hE, hN, hL⟩⟩
  · rw [hE, hN, hL]
    obtain ⟨E, gE⟩ : ∃ E, spE s = E := ⟨_, rfl⟩
    rw [gE] at h0 ⊢
    have he : (E == 0) = false := by simpa using h0
    clear hE
    go_enter Tryd.func8, Tryd.ntmps8
    go_wp2_with (go_at_call 5; refine (psplit_any s _ hs).mono ?_; rintro e u ⟨v, rfl, ow, bel⟩; rw [gE]; have HB : Hid (Below w.heap.size w u) := bel; clear ow bel)
    refine bodyPost_ret (results_tmp3 rfl _ _ _) rfl ?_
    exact ⟨_, rfl, ow_nil _ _, HB.out⟩
  · rw [hE, hN, hL]
    go_enter Tryd.func8, Tryd.ntmps8
    go_wp2_with (go_at_call 5; refine (psplit_any s _ hs).mono ?_; rintro e u ⟨v, rfl, ow, bel⟩; rw [h0]; rw [hn] at ow; obtain ⟨a, c, rfl, _, _, _⟩ := ow.rd; have HB : Hid (Below w.heap.size w u) := bel; clear ow bel; simp only [List.length_nil])
    refine bodyPost_ret (results_tmp3 rfl _ _ _) rfl ?_
    exact ⟨_, rfl, ow_nil _ _, HB.out⟩
  · rw [hE, hN, hL]
    have hl : x.toList = [46, 46] := (up_list x).1 hu
    have hml : M.length ≤ 64 := par_len h0 hn
    go_enter Tryd.func8, Tryd.ntmps8
    go_wp2_with (go_at_call 5; refine (psplit_any s _ hs).mono ?_; rintro e u ⟨v, rfl, ow, bel⟩; rw [h0]; rw [hn] at ow; obtain ⟨a, c, rfl, c1, c2, _⟩ := ow.rd; obtain ⟨g, rfl, hc, c3, c4⟩ := ow_last ow; have HB : Hid (Below w.heap.size w u) := bel; clear ow bel; simp only [List.length_append, List.length_cons, List.length_nil, Nat.zero_add] at *)
    refine bodyPost_ret (results_tmp3 rfl _ _ _) rfl ?_
    exact ⟨_, rfl, ow_nil _ _, HB.out⟩
  · rw [hE, hN, hL]
    have hl : ¬ x.toList = [46, 46] := fun e => by rw [(up_list x).2 e] at hu; cases hu
    have hl2 : (x.toList == [46, 46]) = false := by simp [hl]
    have hml : M.length ≤ 64 := par_len h0 hn
    go_enter Tryd.func8, Tryd.ntmps8
    go_wp2_with (go_at_call 5; refine (psplit_any s _ hs).mono ?_; rintro e u ⟨v, rfl, ow, bel⟩; rw [h0]; rw [hn] at ow; obtain ⟨a, c, rfl, c1, c2, _⟩ := ow.rd; obtain ⟨g, rfl, hc, c3, c4⟩ := ow_last ow; have HB : Hid (Below w.heap.size w u) := bel; have HO : Hid (Ow u w.heap.size (.slice (some ⟨g, 0, none⟩) M.length c) M) := ow_front ow; clear ow bel; simp only [List.length_append, List.length_cons, List.length_nil, Nat.zero_add] at *)
    go_quiet (fail)
    go_wp2
    refine bodyPost_ret (results_tmp3 rfl _ _ _) rfl ?_
    exact ⟨_, rfl, HO.out, below_drewN HB.out nq⟩
end Go.Proofs.YtmbdacdgbmpedabDoor
