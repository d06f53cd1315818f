/-
  SEAT Ytadlkikjfonkgaa: ChipPlays.
-/
import Derived.Test.YtadlkikjfonkgaaPbq
namespace Go.Proofs.Ytadlkikjfonkgaa.chipPlays
open Go.ChangeShapes Go.WideShapes Go.ChangeAt Go.RowKit Go.Joins Go.Deep Go.ChangeMaps
set_option linter.unusedVariables false
theorem own : ownKnob Try.prog.godebug = none := by kernel_rfl
theorem laidOut : laidOutB Try.prog = true := by kernel_rfl
set_option maxHeartbeats 1000000 in
set_option maxRecDepth 100000 in
theorem contract (H : Type) (enc : TypeId × Value → H) (W : World) (base : Nat) (args : Array Value) (ds gs : List (DataW H)) (before : List MemPlace)
  (hval : ∀ (j : Nat) t v, Try.f7.params[j]? = some t → args[j]? = some v → Value.okWide Try.prog W .any base t v)
  (hW : DataW.Whole enc Try.prog Try.f7.params.toList Rows.chipPlaysSpec.vars false W args.toList ds gs before) (hk : Rows.uptoSmall H (ds ++ gs) = true) :
  Calls Try.prog 7 args W fun e W' => ∃ v, e = .returned v ∧ Rows.chipPlaysSpec.post enc Try.prog Try.f7 false true false false W args v W' := by
 have hW' := hW
 obtain ⟨pp, q, hA0, hV, rfl, hfz, hnd⟩ := hW
 have hA : DataW.TrodAll enc Try.prog W 0 (fun _ => true) true Try.f7.params.toList args.toList ds pp := hA0
 rw [Try.params7] at hA hval
 obtain ⟨v0, vs0, d0, ds0, p0, q0, hargs, rfl, rfl, h0, r0⟩ := trodAll_cons hA
 obtain ⟨v1, vs1, d1, ds1, p1, q1, rfl, rfl, rfl, h1, r1⟩ := trodAll_cons r0
 obtain ⟨v2, vs2, d2, ds2, p2, q2, rfl, rfl, rfl, h2, r2⟩ := trodAll_cons r1
 obtain ⟨v3, vs3, d3, ds3, p3, q3, rfl, rfl, rfl, h3, r3⟩ := trodAll_cons r2
 obtain ⟨v4, vs4, d4, ds4, p4, q4, rfl, rfl, rfl, h4, r4⟩ := trodAll_cons r3
 obtain ⟨rfl, rfl, rfl⟩ := trodAll_nil r4
 obtain rfl : args = #[v0, v1, v2, v3, v4] := by cases args; simp_all
 obtain ⟨rfl, rfl⟩ := trodVars_none hV
 obtain ⟨u1, u2, u3, u4⟩ := five_bulk hk
 have k0 := h0
 have lt0 : ∀ x ∈ p0, x.block < W.heap.size := by obtain ⟨m, hm⟩ := k0; exact DataW.trod_lt m _ _ _ hm
 obtain ⟨x00, x01, x02, y00, y01, y02, m0, rfl, rfl, rfl, hy00, hy01, hy02⟩ := open_agg3 Try.underlying23 (by kernel_rfl) c23 (hval 0 23 v0 rfl rfl) h0
 obtain ⟨g00, e00, rfl, wg00⟩ := DataW.trod_int Try.underlying3 hy00
 obtain ⟨g01, e01, rfl, wg01⟩ := DataW.trod_int Try.underlying3 hy01
 obtain ⟨g02, e02, rfl, wg02⟩ := DataW.trod_int Try.underlying3 hy02
 simp at e00 e01 e02
 subst e00 e01 e02
 have k1 := h1
 have lt1 : ∀ x ∈ p1, x.block < W.heap.size := by obtain ⟨m, hm⟩ := k1; exact DataW.trod_lt m _ _ _ hm
 obtain ⟨a1, l1, c1, z1, hv1, rd1, s1⟩ : ∃ a l c zs, v1 = .slice a l c ∧ ReadsI W a l zs ∧ l ≤ 1048576 := by
  obtain ⟨fuel, hf⟩ := h1
  have hc1 : v1.cells.toList = [v1] := by
   obtain ⟨q1, q2, q3, rfl⟩ := okWide_slice Try.underlying48 (hval 1 48 v1 rfl rfl)
   rfl
  rw [hc1] at hf
  exact open_intsU hf u1
 subst hv1
 have k2 := h2
 have lt2 : ∀ x ∈ p2, x.block < W.heap.size := by obtain ⟨m, hm⟩ := k2; exact DataW.trod_lt m _ _ _ hm
 obtain ⟨a2, l2, c2, z2, hv2, rd2, s2⟩ : ∃ a l c zs, v2 = .slice a l c ∧ ReadsF W a l zs ∧ l ≤ 1048576 := by
  obtain ⟨fuel, hf⟩ := h2
  have hc2 : v2.cells.toList = [v2] := by
   obtain ⟨q1, q2, q3, rfl⟩ := okWide_slice Try.underlying49 (hval 2 49 v2 rfl rfl)
   rfl
  rw [hc2] at hf
  exact open_faults hf u2
 subst hv2
 have k3 := h3
 have lt3 : ∀ x ∈ p3, x.block < W.heap.size := by obtain ⟨m, hm⟩ := k3; exact DataW.trod_lt m _ _ _ hm
 obtain ⟨a3, l3, c3, z3, hv3, rd3, s3⟩ : ∃ a l c zs, v3 = .slice a l c ∧ ReadsO W a l zs ∧ l ≤ 1048576 := by
  obtain ⟨fuel, hf⟩ := h3
  have hc3 : v3.cells.toList = [v3] := by
   obtain ⟨q1, q2, q3, rfl⟩ := okWide_slice Try.underlying50 (hval 3 50 v3 rfl rfl)
   rfl
  rw [hc3] at hf
  exact open_opsU hf u3
 subst hv3
 have k4 := h4
 have lt4 : ∀ x ∈ p4, x.block < W.heap.size := by obtain ⟨m, hm⟩ := k4; exact DataW.trod_lt m _ _ _ hm
 obtain ⟨a4, l4, c4, z4, hv4, rd4, s4⟩ : ∃ a l c zs, v4 = .slice a l c ∧ ReadsO W a l zs ∧ l ≤ 1048576 := by
  obtain ⟨fuel, hf⟩ := h4
  have hc4 : v4.cells.toList = [v4] := by
   obtain ⟨q1, q2, q3, rfl⟩ := okWide_slice Try.underlying50 (hval 4 50 v4 rfl rfl)
   rfl
  rw [hc4] at hf
  exact open_opsU hf u4
 subst hv4
 clear hA0
 refine (playsWalk g00 g01 g02 a1 l1 c1 z1 a2 l2 c2 z2 a3 l3 c3 z3 a4 l4 c4 z4 W rd1 s1 rd2 s2 rd3 s3 rd4 s4).mono fun e W' ⟨he, bel⟩ => ?_
 subst he
 exact ⟨_, rfl, _, _, _, [], _, [], hW', trodAll_mk1 (shut_bool Try.underlying4 _), (trodAll_cons_mk (Below.trod laidOut (by kernel_rfl) (of_decide_eq_true (by kernel_rfl)) k0 bel lt0) (trodAll_cons_mk (Below.trod laidOut (by kernel_rfl) (of_decide_eq_true (by kernel_rfl)) k1 bel lt1) (trodAll_cons_mk (Below.trod laidOut (by kernel_rfl) (of_decide_eq_true (by kernel_rfl)) k2 bel lt2) (trodAll_cons_mk (Below.trod laidOut (by kernel_rfl) (of_decide_eq_true (by kernel_rfl)) k3 bel lt3) (trodAll_cons_mk (Below.trod laidOut (by kernel_rfl) (of_decide_eq_true (by kernel_rfl)) k4 bel lt4) trodAll_mk0))))), rfl, bel.frame _, fun h => by cases h⟩
set_option maxRecDepth 100000 in
theorem lifted (os : Os) (started : os.Started) (H : Type) (enc : TypeId × Value → H) (F : Stop.Interp) :
  ReturnsInHanded {} Try.checked os 7 .any ((Rows.OpenSpec.upto Rows.chipPlaysSpec).pre6 enc Try.prog Try.f7 Rows.chipPlaysUptoRow.domain false) (((Rows.OpenSpec.upto Rows.chipPlaysSpec).at F).post enc Try.prog Try.f7 false true false false) := by
 refine returnsInHanded_of_cond (C := Try.checked) (s := Rows.OpenSpec.upto Rows.chipPlaysSpec) (k := Rows.uptoSmall) rfl own started (by kernel_rfl) Try.func7
  (OpenSpec.witness (enc := enc) (C := Try.checked) (s := Rows.OpenSpec.upto Rows.chipPlaysSpec) (k := Rows.uptoSmall) rfl false ⟨#[], #[.agg #[.int .i64 0, .int .i64 0, .int .i64 0], .slice none 0 0, .slice none 0 0, .slice none 0 0, .slice none 0 0], []⟩ 8 (by kernel_rfl) (by kernel_rfl) (by kernel_rfl)
   (x := ([.agg [.lit (.int .i64 0), .lit (.int .i64 0), .lit (.int .i64 0)], .nil, .nil, .nil, .nil], [], [])) (by kernel_rfl) rfl (by kernel_rfl)) ?_
 intro W base args ds gs before hval hW _ hk _
 exact contract H enc W base args ds gs before hval hW hk
theorem over : Rows.ChipPlaysUptoSaid :=
 OpenClaim.holds_of_cond 7 Try.f7 rfl rfl rfl rfl rfl rfl rfl ⟨rfl, rfl, rfl, rfl, rfl⟩ rfl rfl rfl rfl rfl (by kernel_rfl) Try.func7 (by kernel_rfl)
  (of_decide_eq_true (by kernel_rfl)) (by unfold Func.isWrapper; first | (rw [if_pos (by decide +kernel)]; kernel_rfl) | (rw [if_neg (by decide +kernel)]; exact ⟨rfl, rfl⟩))
  (fun os started H enc _ F => lifted os started H enc F)
end Go.Proofs.Ytadlkikjfonkgaa.chipPlays
namespace Go.Proofs.Ytadlkikjfonkgaa
theorem chipPlays_upto : Rows.ChipPlaysUptoSaid := chipPlays.over
#print axioms chipPlays_upto
end Go.Proofs.Ytadlkikjfonkgaa
