/-
  SEAT Ytjhphkfpcpfdnaa: Trace; Dark, Count, On.
-/
import Derived.Test.YtjhphkfpcpfdnaaRd
namespace Go.Proofs.Ytjhphkfpcpfdnaa
open Go.RowKit Go.Conc
set_option linter.unusedVariables false

theorem made120 (w : World) : (w.alloc (.cells #[] 54)).ownsRow w.heap.size 54 4 (.slice (some ⟨w.heap.size, 0, none⟩) 0 0) 0 [] := World.ownsRow_made w #[] 0 (Nat.le_refl _) (by simp [maxLen]) rfl
theorem cmd_one {tr : List Cmd} : ∀ u ∈ tr.flatMap Cmd.cells, u.oneCell' = true := by
  intro u hu
  obtain ⟨c, _, hc⟩ := List.mem_flatMap.1 hu
  simp [Cmd.cells] at hc
  rcases hc with rfl | rfl | rfl | rfl <;> rfl
set_option maxRecDepth 100000 in
theorem cloneC_any (a : Option Addr) (n c : Nat) (tr : List Cmd) (w : World) (B : Nat) (ho : w.ownsRow B 54 4 (.slice a n c) n (tr.flatMap Cmd.cells)) (hl : n ≤ 4000000000000) :
    Calls Try.prog 33 #[.slice a n c] w fun e w' => ∃ v, e = .returned v ∧ w'.ownsRow w.heap.size 54 4 v n (tr.flatMap Cmd.cells) ∧ Below w.heap.size w w' := by
  obtain ⟨i0, hi, hz0, hz1, hz2⟩ := info_parts info54
  rcases ho.2 with ⟨hv, h0⟩ | ⟨g, cap, cur, hv, hB, hg, hnc, hcm, hcs, htk⟩
  · cases hv
    have hnil := fun w : World => _root_.Go.run_eql_slice_nil (P := Try.prog) w 46 54 none 0 0 Try.underlying46
    have hx : tr.flatMap Cmd.cells = [] := List.eq_nil_of_length_eq_zero (by have := ho.1; simpa using this)
    rw [hx]
    clear ho hx
    go_enter Try.func33, Try.ntmps33
    go_wp2
    go_ret
    exact ⟨_, rfl, World.ownsRow_nil _ _ _ _, Below.refl _ _⟩
  · cases hv
    have hnil := fun w : World => _root_.Go.run_eql_slice_nil (P := Try.prog) w 46 54 (some ⟨g, 0, none⟩) n c Try.underlying46
    have HM := hide (made120 w)
    have hlen : (tr.flatMap Cmd.cells).length = n * 4 := ho.1
    have HN : Hid (∀ j u, (tr.flatMap Cmd.cells)[j]? = some u → (w.alloc (.cells #[] 54)).cell? ((⟨g, 0, none⟩ : Addr).add j) = some u) := by
      intro j u hj
      rw [plain_add, Nat.zero_add, (below_alloc w (.cells #[] 54)).cell (p := ⟨g, j, none⟩) (lt_of_block hg)]
      simp only [World.cell?, hg]
      rw [← htk, List.getElem?_take] at hj
      split at hj
      · simpa using hj
      · cases hj
    have HLN := hide hlen
    clear ho hg hB hnc hcm hcs htk hlen
    go_enter Try.func33, Try.ntmps33
    go_wp2_with (at_builtin; refine wpList_append_own _ rfl (.tmp 5) (.tmp 6) 46 rfl w.heap.size 54 i0 (.agg #[.int .i64 0, .int .i64 0, .int .i64 0, .int .i64 0]) 4 32 Try.underlying46 hi hz0 hz1 hz2 rfl (by decide) _ 0 [] rfl HM.out ⟨g, 0, none⟩ n c (tr.flatMap Cmd.cells) rfl HLN.out HN.out cmd_one (by simp [maxLen]; omega) (by omega) (by simp) ?_; intro v2 w2 own2 grow2 _; have HO := hide own2; have HG := hide grow2; clear own2 grow2)
    go_ret
    refine ⟨_, rfl, by simpa using HO.out, ?_⟩
    exact (below_alloc w _).grown HG.out (by simp) (fun k hk => (World.ownsRow.lt HM.out k hk).1)

theorem Trace_any (w : World) (p : Nat) (F : Nat → Prop) (C : Ch) (h : ChipAt w p F C) (htr : C.tr.length ≤ 4000000000000) :
    Calls Try.prog 9 #[.pointer (some ⟨p, 0, none⟩)] w fun e w' => ∃ v, e = .returned v ∧ w'.ownsRow w.heap.size 54 4 v C.tr.length (C.tr.flatMap Cmd.cells) ∧ Below w.heap.size w w' := by
  obtain ⟨x, bs, fe, hc⟩ := h
  have c13 := hc.box.c13
  have HT := hide hc.tr
  have hl := hc.tr.len
  have HTL := hide hl
  rw [hl] at c13
  clear hc hl
  go_enter Try.func9, Try.ntmps9
  go_wp2_with (first | (go_at_call 33; refine (cloneC_any x.ta C.tr.length x.tc C.tr _ 0 (by have h9 := HT.out.row; rw [HTL.out] at h9; exact h9) htr).mono ?_; rintro e u1 ⟨v, rfl, o1, b1⟩; have HO := hide o1; have HB := hide b1; clear o1 b1))
  go_ret
  exact ⟨_, rfl, HO.out, HB.out⟩

theorem Dark_any (w : World) (p : Nat) (F : Nat → Prop) (C : Ch) (h : ChipAt w p F C) : Calls Try.prog 10 #[.pointer (some ⟨p, 0, none⟩)] w fun e w' => e = .returned (.bool C.dark) ∧ w' = w := by
  obtain ⟨x, bs, fe, hc⟩ := h
  rw [← hc.dark]
  exact dark_any hc.box
theorem On_any (w : World) (p : Nat) (F : Nat → Prop) (C : Ch) (h : ChipAt w p F C) : Calls Try.prog 11 #[.pointer (some ⟨p, 0, none⟩)] w fun e w' => e = .returned (.tuple #[]) ∧ ChipAt w' p F { C with dark := false } ∧ Only F w w' := by
  obtain ⟨x, bs, fe, hc⟩ := h
  refine (on_any hc.box).mono ?_
  rintro e w' ⟨rfl, rfl⟩
  have ho := Only.setCell (· = p) w p 11 (.bool false) rfl
  exact ⟨rfl, ⟨_, bs, fe, hc.box2 (hc.onlyBox ho (fun k hk => hk)) ho.size (hc.box.setDark false) ⟨rfl, rfl, rfl, rfl, rfl, rfl, rfl⟩ ⟨rfl, rfl, rfl, rfl, rfl, rfl, rfl⟩ ⟨rfl, rfl, rfl⟩ rfl hc.cnt ⟨rfl, rfl, rfl, rfl, rfl, rfl, rfl⟩⟩, ho.mono (fun j _ e => by rw [e]; exact hc.fp)⟩
end Go.Proofs.Ytjhphkfpcpfdnaa
