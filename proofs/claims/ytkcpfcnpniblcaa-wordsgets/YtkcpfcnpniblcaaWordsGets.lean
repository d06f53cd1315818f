/-
  SEAT Ytkcpfcnpniblcaa: WordsGets.
-/
import Derived.Test.YtkcpfcnpniblcaaKitF
import Derived.WalkKit
import Derived.ProofKit
import Derived.OpenShut
import Derived.ShutString
import Derived.ChangeOld
import Derived.Below
import Derived.SizedLaws
namespace Go.Proofs.Ytkcpfcnpniblcaa.wordsGets
open Go.ChangeShapes Go.WideShapes Go.ChangeAt Go.RowKit
open Go.ChangeMaps (open_string shut_string)
set_option linter.unusedVariables false

theorem own : ownKnob Try.prog.godebug = none := by kernel_rfl
theorem bytes5 : Try.prog.bytesOf 5 = 1 := by kernel_rfl
theorem laidOut : laidOutB Try.prog = true := by kernel_rfl

set_option maxHeartbeats 1000000 in
theorem walk (a0 : Option Addr) (len0 cap0 : Nat) (z0 : List Int) (a1 : Int) (a2 : Int) (w : World) (w0 : Reads w a0 len0 z0) (s0 : len0 ≤ 140737488351232) (w1 : (Lit.int .i64 a1).wf = true) (w2 : (Lit.int .i64 a2).wf = true) :
    Calls Try.prog 4 #[.slice a0 len0 cap0, .int .i64 a1, .int .i64 a2] w fun e w' => e = .returned (.bool true) ∧ Below w.heap.size w w' := by
  obtain ⟨i0, hi, hz0, hz1, hz2⟩ := info_parts info5
  obtain ⟨val, code, hget, hrget⟩ := gets_any len0 a1 a2 z0 (by omega)
  obtain ⟨y0, hy0⟩ : ∃ y0, y0 = z0.map (fun z => bits .xor .u8 z 90) := ⟨_, rfl⟩
  have hyl : y0.length = len0 := by rw [hy0]; simp [w0.1]
  have hyr : ∀ x ∈ y0, 0 ≤ x ∧ x ≤ 255 := by
    intro x hx
    rw [hy0] at hx
    obtain ⟨z, hz, rfl⟩ := List.mem_map.1 hx
    exact xor_range z (w0.2.1 z hz).1 (w0.2.1 z hz).2
  obtain ⟨val2, code2, hget2, hrget2⟩ := gets_any len0 a1 a2 y0 (by omega)
  have HY : Hid (y0 = z0.map (fun z => bits .xor .u8 z 90)) := hy0
  clear hy0
  go_enter Try.func4, Try.ntmps4
  go_wp2_with (first
    | (go_at_call 7; refine (marked_any _ _ _ _ _ w0 (by omega)).mono ?_; rintro e u1 ⟨g1, c1, rfl, own1, bel1⟩; have rd1 := own1.reads (marks_range _ w0.2.1) len0 (by omega); rw [List.take_left' w0.1] at rd1; have rb1 := w0.below bel1)
    | (go_at_call 12; refine (hget _ _ _ ?_).mono ?_; assumption; rintro e u2 ⟨rfl, rfl⟩)
    | (go_at_call 13; refine (hrget _ _ _ ?_).mono ?_; assumption; rintro e u3 ⟨rfl, rfl⟩)
    | (go_at_call 14; refine (no_any _ _).mono ?_; rintro e u4 ⟨rfl, rfl⟩)
    | (go_at_call 9; refine (kept_any _ _ _ _ _ _ _ z0 _ (by omega) rb1 own1).mono ?_; rintro e u5 ⟨rfl, kk, rfl⟩)
    | (go_at_call 10; refine (changed_any _ _ _ _ _ _ _ _ (by omega) w0.1 w0.2.1 (own1.drewN _)).mono ?_; rintro e u6 ⟨rfl, own6, gr6⟩; rw [← HY.out] at own6; have rd6 := own6.reads (marks_range _ hyr) len0 (by omega); rw [List.take_left' hyl] at rd6; have bel6 := (below_drewN bel1 kk).grown gr6 (by simpa using bel1.size) (fun k hk => by cases hk; exact own1.lt.1); have hnw := news_in rd6)
    | (go_at_call 12; refine (hget2 _ _ _ ?_).mono ?_; assumption; rintro e u7 ⟨rfl, rfl⟩)
    | (at_builtin; refine wpList_append_own _ rfl (.tmp 53) (.tmp 54) 22 rfl u6.heap.size 5 i0 (.int .u8 0) 1 1 Try.underlying22 hi hz0 hz1 hz2 rfl (by decide) _ _ _ rfl (made0 u6) ⟨g1, 0, none⟩ len0 c1 (y0.map (Value.int .u8)) rfl (by simp [hyl]) hnw (ints_oneCell _ _) (by simp [maxLen]; omega) (by omega) (by simp) ?_; intro v7 w7 hown7 hgrow7 _; simp only [Nat.zero_add, List.nil_append] at hown7; obtain ⟨a7, c7, rfl, rd7⟩ := own_any hown7 hyr)
    | (go_at_call 13; refine (hrget2 _ _ _ ?_).mono ?_; assumption; rintro e u8 ⟨rfl, rfl⟩))
  go_ret
  exact ⟨rfl, bel6.trans ((((Below.refl _ _).alloc (Nat.le_refl _) _).grown hgrow7 (by simp) (fun k hk => ((made0 u6).lt k hk).1)).mono bel6.size)⟩

set_option maxRecDepth 100000 in
theorem lifted (os : Os) (started : os.Started) (H : Type) (enc : TypeId × Value → H) :
    ReturnsInHanded {} Try.checked os 4 .any (Rows.wordsGetsSpec.pre6 enc Try.prog Try.f4 Rows.wordsGetsRow.domain false) (Rows.wordsGetsSpec.post enc Try.prog Try.f4 false true false false) := by
  refine returnsInHanded_of_change_sized (C := Try.checked) own started (by kernel_rfl) Try.func4
    (ChangeSpec.witness6 (enc := enc) (C := Try.checked) false ⟨#[], #[.slice none 0 0, .int .i64 0, .int .i64 0], []⟩ 8 (by kernel_rfl) (by kernel_rfl) (by kernel_rfl) (by kernel_rfl)) ?_
  intro W base args ds gs before hval0 hW hcnd hsz0 _
  have hval : ∀ (j : Nat) t v, Try.f4.params[j]? = some t → args[j]? = some v → Value.okWide Try.prog W .any base t v := hval0
  have hsz : (DataW.weightsEach Try.prog (Try.f4.params.toList ++ Rows.wordsGetsSpec.plain.varTypes Try.prog) (ds ++ gs)).all (· ≤ reachBytes) = true := hsz0
  clear hsz0
  have hW' := hW
  obtain ⟨p, q, hA0, hV, rfl, hfz, hnd⟩ := hW
  have hA : DataW.TrodAll enc Try.prog W 0 (fun _ => true) true Try.f4.params.toList args.toList ds p := hA0
  rw [Try.params4] at hA hval hsz
  obtain ⟨v0, vs0, d0, ds0, p0, q0, hargs, rfl, rfl, h0, r0⟩ := trodAll_cons hA
  obtain ⟨v1, vs1, d1, ds1, p1, q1, rfl, rfl, rfl, h1, r1⟩ := trodAll_cons r0
  obtain ⟨v2, vs2, d2, ds2, p2, q2, rfl, rfl, rfl, h2, r2⟩ := trodAll_cons r1
  obtain ⟨rfl, rfl, rfl⟩ := trodAll_nil r2
  obtain rfl : args = #[v0, v1, v2] := by cases args; simp_all
  obtain ⟨rfl, rfl⟩ := trodVars_none hV
  obtain ⟨a0, len0, cap0, rfl⟩ := okWide_slice Try.underlying22 (hval 0 22 v0 rfl rfl)
  have k0 := h0
  have lt0 : ∀ x ∈ p0, x.block < W.heap.size := by obtain ⟨m, hm⟩ := k0; exact DataW.trod_lt m _ _ _ hm
  obtain ⟨z0, w0, s0⟩ : ∃ zs, Reads W a0 len0 zs ∧ len0 ≤ 140737488351232 := by
    obtain ⟨fuel, hf⟩ := h0
    rcases open_ints Try.underlying22 Try.underlying5 (by kernel_rfl) hf with ⟨hcs, _⟩ | ⟨x, l, c, zs, hcs, _, hl, hm, hz, hx, hcell, hwz⟩
    · simp [Value.cells] at hcs
      obtain ⟨rfl, rfl, rfl⟩ := hcs
      exact ⟨[], ⟨rfl, by simp, fun _ => rfl, fun _ h => by cases h⟩, by omega⟩
    · simp [Value.cells] at hcs
      obtain ⟨rfl, rfl, rfl⟩ := hcs
      have hz' : zs.length = cap0 := by simpa using hz
      have hd := (Prod.mk.inj hx).1
      have hw := sized_slice hsz (j := 0) (t := 22) (e := 5) rfl (congrArg some hd) Try.underlying22
      rw [bytes5] at hw
      simp only [lits, List.length_map, List.length_take, List.length_drop, reachBytes] at hw
      refine ⟨zs.take len0, ⟨by simp; omega, fun n hn => bounds_u8 (hwz n (List.mem_of_mem_take hn)), (fun h => by cases h), fun y hy i hi => ?_⟩, by omega⟩
      cases hy
      rw [hcell i (by omega)]
      simp [List.getD, hi]
  obtain ⟨a1, rfl, rfl, rfl, w1⟩ := open_int Try.underlying3 (hval 1 3 v1 rfl rfl) h1
  obtain ⟨a2, rfl, rfl, rfl, w2⟩ := open_int Try.underlying3 (hval 2 3 v2 rfl rfl) h2
  clear hA0 hval0
  refine (walk a0 len0 cap0 z0 a1 a2 W w0 s0 w1 w2).mono fun e W' ⟨he, bel⟩ => ?_
  subst he
  exact ⟨_, rfl, _, _, _, [], _, [], hW', trodAll_mk1 (shut_bool Try.underlying4 _), (trodAll_cons_mk (Below.trod laidOut (by kernel_rfl) (of_decide_eq_true (by kernel_rfl)) k0 bel lt0) (trodAll_cons_mk (shut_int Try.underlying3 w1) (trodAll_cons_mk (shut_int Try.underlying3 w2) trodAll_mk0))), rfl, bel.frame _, fun h => by cases h⟩

theorem over : Rows.wordsGetsRow.holds Try.pinned (OpenSpec.ofChange Rows.wordsGetsSpec) :=
  OpenClaim.holds_of_wide 4 Try.f4 rfl rfl rfl rfl rfl rfl rfl ⟨rfl, rfl, rfl, rfl, rfl⟩ rfl rfl rfl rfl rfl (by kernel_rfl) Try.func4 (by kernel_rfl)
    (of_decide_eq_true (by kernel_rfl)) (by unfold Func.isWrapper; first | (rw [if_pos (by decide +kernel)]; kernel_rfl) | (rw [if_neg (by decide +kernel)]; exact ⟨rfl, rfl⟩))
    (fun os started H enc _ => lifted os started H enc)

end Go.Proofs.Ytkcpfcnpniblcaa.wordsGets
namespace Go.Proofs.Ytkcpfcnpniblcaa
theorem wordsGets_holds : Rows.WordsGetsSaid := wordsGets.over
#print axioms wordsGets_holds
end Go.Proofs.Ytkcpfcnpniblcaa

