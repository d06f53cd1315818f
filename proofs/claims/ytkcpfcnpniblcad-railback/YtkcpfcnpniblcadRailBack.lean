/-
  SEAT Ytkcpfcnpniblcad: RailBack.
-/
import Derived.Test.YtkcpfcnpniblcadRdF
import Derived.WalkKit
import Derived.ProofKit
import Derived.OpenShut
import Derived.ShutString
import Derived.ChangeOld
import Derived.Below
import Derived.SizedLaws
namespace Go.Proofs.Ytkcpfcnpniblcad.railBack
open Go.ChangeShapes Go.WideShapes Go.ChangeAt Go.RowKit
open Go.ChangeMaps (open_string shut_string)
set_option linter.unusedVariables false

theorem own : ownKnob Try.prog.godebug = none := by kernel_rfl
theorem bytes5 : Try.prog.bytesOf 5 = 1 := by kernel_rfl
theorem laidOut : laidOutB Try.prog = true := by kernel_rfl

set_option maxHeartbeats 1000000 in
set_option maxRecDepth 100000 in
theorem walk (a0 : Option Addr) (len0 cap0 : Nat) (z0 : List Int) (a1 : Int) (a2 : Int) (w : World) (w0 : Reads w a0 len0 z0) (s0 : len0 ≤ 140737488351232) (w1 : (Lit.int .i64 a1).wf = true) (w2 : (Lit.int .i64 a2).wf = true) :
    Calls Try.prog 5 #[.slice a0 len0 cap0, .int .i64 a1, .int .i64 a2] w fun e w' => e = .returned (.bool true) ∧ Below w.heap.size w w' := by
  by_cases hle : len0 ≤ 4095
  · obtain ⟨hz, hz256⟩ := cst_of z0 w0.2.1
    obtain ⟨ns, hns⟩ : ∃ ns, ns = z0.map Int.toNat := ⟨_, rfl⟩
    rw [← hns] at hz hz256
    have hnl : ns.length = len0 := by rw [hns, List.length_map]; exact w0.1
    subst hz
    clear hns
    have hcol := col_cst ns hz256
    obtain ⟨L, hL⟩ : ∃ L, L = layLN (ns ++ [colN ns]) := ⟨_, rfl⟩
    have hyl : (ns ++ [colN ns]).length = len0 + 1 := by simp [hnl]
    have hy : ∀ y ∈ ns ++ [colN ns], y < 256 := by
      intro y hy
      rcases List.mem_append.1 hy with h1 | h1
      · exact hz256 y h1
      · simp at h1; subst h1; exact col_lt ns hz256
    have h0 := col_seal ns
    have hLl : L.length = 2 * len0 + 2 := by rw [hL, layLN_length, hyl]; omega
    have hL256 : ∀ x ∈ L, x < 256 := by rw [hL]; exact layLN_lt _
    have hlay : layL (cst ns ++ [colF (cst ns)]) = cst L := by
      rw [hcol, hL, ← lay_cst]
      simp [cst]
    obtain ⟨rr, hrr⟩ : ∃ rr : Int → Nat, ∀ a : Int, (-9223372036854775808 ≤ a ∧ a ≤ 9223372036854775807) → rr a < 8 * (2 * len0 + 2) ∧ ∀ w, Calls Try.prog 19 #[.int .i64 a, .int .i64 (8 * (2 * (len0 : Int) + 2))] w fun e w' => e = .returned (.int .i64 (rr a : Int)) ∧ w = w' := by
      have key : ∀ a : Int, ∃ r : Nat, (-9223372036854775808 ≤ a ∧ a ≤ 9223372036854775807) → r < 8 * (2 * len0 + 2) ∧ ∀ w, Calls Try.prog 19 #[.int .i64 a, .int .i64 (8 * (2 * (len0 : Int) + 2))] w fun e w' => e = .returned (.int .i64 (r : Int)) ∧ w = w' := fun a => by
        by_cases ha : -9223372036854775808 ≤ a ∧ a ≤ 9223372036854775807
        · obtain ⟨r, h1, h2⟩ := rest_any a (8 * (2 * (len0 : Int) + 2)) (8 * (2 * len0 + 2)) (by omega) (by omega) (by omega) ha
          exact ⟨r, fun _ => ⟨h1, h2⟩⟩
        · exact ⟨0, fun h => absurd h ha⟩
      exact ⟨fun a => (key a).choose, fun a ha => (key a).choose_spec ha⟩
    have hb1 := bounds_i64 w1
    have hb2 := bounds_i64 w2
    obtain ⟨i, hii⟩ : ∃ i, rr a1 = i := ⟨_, rfl⟩
    obtain ⟨j, hjj⟩ : ∃ j, rr a2 = j := ⟨_, rfl⟩
    have hi : i < 8 * (2 * len0 + 2) := by rw [← hii]; exact (hrr a1 hb1).1
    have hj : j < 8 * (2 * len0 + 2) := by rw [← hjj]; exact (hrr a2 hb2).1
    have hr1 : readN L = some (ns, -1) := by rw [hL]; exact read_lay ns hz256
    have htk : (ns ++ [colN ns]).take ((ns ++ [colN ns]).length - 1) = ns := by rw [hyl]; simp [hnl]
    have hr2 : readN (turnN L i) = some (ns, ((i / 2 : Nat) : Int)) := by
      rw [hL, read_turn _ hy h0 i (by omega), htk]
    have hr3 : i = j → readN (turnN (turnN L i) j) = some (ns, -1) := by
      intro e
      subst e
      rw [turn_back L i (by omega)]
      exact hr1
    have hr4 : i ≠ j → readN (turnN (turnN L i) j) = none := by
      intro e
      rw [hL]
      exact read_turn2 _ hy h0 i j (by omega) (by omega) e
    have H1 : Hid (readN L = some (ns, -1)) := hr1
    have H2 : Hid (readN (turnN L i) = some (ns, ((i / 2 : Nat) : Int))) := hr2
    have HLAY : Hid (layL (cst ns ++ [colF (cst ns)]) = cst L) := hlay
    have HRR : Hid (∀ (a : Int) (w : World), (-9223372036854775808 ≤ a ∧ a ≤ 9223372036854775807) → Calls Try.prog 19 #[.int .i64 a, .int .i64 (8 * (2 * (len0 : Int) + 2))] w fun e w' => e = .returned (.int .i64 (rr a : Int)) ∧ w = w') := fun a w ha => (hrr a ha).2 w
    have HI : Hid (rr a1 = i) := hii
    have HJ : Hid (rr a2 = j) := hjj
    have HB1 : Hid _ := hb1
    have HB2 : Hid _ := hb2
    have H256 : Hid (∀ x ∈ L, x < 256) := hL256
    have hm : 1 ≤ len0 + 1 ∧ len0 + 1 ≤ 4096 := by omega
    clear hL hlay hr1 hr2 hrr hii hjj hb1 hb2 hL256 hcol h0 hyl hy htk
    by_cases hij : i = j
    · have H3 : Hid (readN (turnN (turnN L i) j) = some (ns, -1)) := hr3 hij
      clear hr3 hr4
      subst hij
      go_enter Try.func5, Try.ntmps5
      go_wp2_with (first
        | (go_at_call 8; refine (heads_any _).mono ?_; rintro e u1 ⟨rfl, bel1⟩; have rb1 := w0.below bel1)
        | (go_at_call 9; refine (lay_ok _ _ _ (cst ns) _ hle rb1).mono ?_; rintro e u2 ⟨g, c, rfl, own2, bel2⟩; rw [HLAY.out] at own2; have bw2 := bel1.trans (bel2.mono bel1.size); have gl2 := own2.lt)
        | (go_at_call 10; refine (no_any _ _).mono ?_; rintro e u ⟨rfl, rfl⟩)
        | (go_at_call 18; refine (read_ok _ _ _ (len0 + 1) L _ ?_ hm H256.out ?_).mono ?_; omega; exact own2.all (cst_range _ H256.out); rintro e u3 ⟨hr, bel3⟩; rw [H1.out] at hr; obtain ⟨rfl, rx3⟩ := read_got hr; have bw3 := bw2.trans (bel3.mono bw2.size); have own3 := own2.below bel3; have rb3 := w0.below bw3)
        | (go_at_call 12; refine (same_any _ _ _ _ _ (cst ns) (cst ns) _ ?_ ?_ ?_).mono ?_; omega; exact rx3; exact rb3; rintro e u4 ⟨rfl, k4, hu4⟩; have bw4 : Below w.heap.size w u4 := (by rw [hu4]; exact below_drewN bw3 k4); have own4 : Own u4 u1.heap.size g (2 * len0 + 2) c (cst L) := (by rw [hu4]; exact own3.drewN k4); clear hu4)
        | (go_at_call 19; refine (HRR.out _ _ ?_).mono ?_; (first | exact HB1.out | exact HB2.out); rintro e u ⟨rfl, rfl⟩; (first | rw [HI.out] | rw [HJ.out]))
        | (go_at_call 20; refine (turn_any u1.heap.size _ _ _ _ L _ ?_ ?_ H256.out ?_).mono ?_; omega; exact hi; exact own4; rintro e u5 ⟨rfl, own5, g5⟩; have bw5 := bw4.grown g5 bw4.size (fun q hq => by cases hq; have := bel1.size; omega))
        | (go_at_call 18; refine (read_ok _ _ _ (len0 + 1) (turnN L i) _ ?_ hm (turnN_lt L i H256.out) ?_).mono ?_; omega; exact own5.all (cst_range _ (turnN_lt L i H256.out)); rintro e u6 ⟨hr, bel6⟩; rw [H2.out] at hr; obtain ⟨rfl, rx6⟩ := read_got hr; have bw6 := bw5.trans (bel6.mono bw5.size); have own6 := own5.below bel6; have rb6 := w0.below bw6)
        | (go_at_call 12; refine (same_any _ _ _ _ _ (cst ns) (cst ns) _ ?_ ?_ ?_).mono ?_; omega; exact rx6; exact rb6; rintro e u7 ⟨rfl, k7, hu7⟩; have bw7 : Below w.heap.size w u7 := (by rw [hu7]; exact below_drewN bw6 k7); have own7 : Own u7 u1.heap.size g (2 * len0 + 2) c (cst (turnN L i)) := (by rw [hu7]; exact own6.drewN k7); clear hu7)
        | (go_at_call 20; refine (turn_any u1.heap.size _ _ _ _ (turnN L i) _ ?_ ?_ (turnN_lt L i H256.out) ?_).mono ?_; omega; exact hi; exact own7; rintro e u8 ⟨rfl, own8, g8⟩; have bw8 := bw7.grown g8 bw7.size (fun q hq => by cases hq; have := bel1.size; omega))
        | (go_at_call 18; refine (read_ok _ _ _ (len0 + 1) (turnN (turnN L i) i) _ ?_ hm (turnN_lt _ _ (turnN_lt L i H256.out)) ?_).mono ?_; omega; exact own8.all (cst_range _ (turnN_lt _ _ (turnN_lt L i H256.out))); rintro e u9 ⟨hr, bel9⟩; rw [H3.out] at hr; obtain ⟨rfl, rx9⟩ := read_got hr; have bw9 := bw8.trans (bel9.mono bw8.size); have rb9 := w0.below bw9)
        | (go_at_call 12; refine (same_any _ _ _ _ _ (cst ns) (cst ns) _ ?_ ?_ ?_).mono ?_; omega; exact rx9; exact rb9; rintro e u10 ⟨rfl, k10, rfl⟩))
      go_ret
      exact ⟨rfl, below_drewN bw9 _⟩
    · have H4 : Hid (readN (turnN (turnN L i) j) = none) := hr4 hij
      have hij2 : ((i : Int) == (j : Int)) = false := by simp; omega
      clear hr3 hr4
      go_enter Try.func5, Try.ntmps5
      go_wp2_with (first
        | (go_at_call 8; refine (heads_any _).mono ?_; rintro e u1 ⟨rfl, bel1⟩; have rb1 := w0.below bel1)
        | (go_at_call 9; refine (lay_ok _ _ _ (cst ns) _ hle rb1).mono ?_; rintro e u2 ⟨g, c, rfl, own2, bel2⟩; rw [HLAY.out] at own2; have bw2 := bel1.trans (bel2.mono bel1.size); have gl2 := own2.lt)
        | (go_at_call 10; refine (no_any _ _).mono ?_; rintro e u ⟨rfl, rfl⟩)
        | (go_at_call 18; refine (read_ok _ _ _ (len0 + 1) L _ ?_ hm H256.out ?_).mono ?_; omega; exact own2.all (cst_range _ H256.out); rintro e u3 ⟨hr, bel3⟩; rw [H1.out] at hr; obtain ⟨rfl, rx3⟩ := read_got hr; have bw3 := bw2.trans (bel3.mono bw2.size); have own3 := own2.below bel3; have rb3 := w0.below bw3)
        | (go_at_call 12; refine (same_any _ _ _ _ _ (cst ns) (cst ns) _ ?_ ?_ ?_).mono ?_; omega; exact rx3; exact rb3; rintro e u4 ⟨rfl, k4, hu4⟩; have bw4 : Below w.heap.size w u4 := (by rw [hu4]; exact below_drewN bw3 k4); have own4 : Own u4 u1.heap.size g (2 * len0 + 2) c (cst L) := (by rw [hu4]; exact own3.drewN k4); clear hu4)
        | (go_at_call 19; refine (HRR.out _ _ ?_).mono ?_; (first | exact HB1.out | exact HB2.out); rintro e u ⟨rfl, rfl⟩; (first | rw [HI.out] | rw [HJ.out]))
        | (go_at_call 20; refine (turn_any u1.heap.size _ _ _ _ L _ ?_ ?_ H256.out ?_).mono ?_; omega; exact hi; exact own4; rintro e u5 ⟨rfl, own5, g5⟩; have bw5 := bw4.grown g5 bw4.size (fun q hq => by cases hq; have := bel1.size; omega))
        | (go_at_call 18; refine (read_ok _ _ _ (len0 + 1) (turnN L i) _ ?_ hm (turnN_lt L i H256.out) ?_).mono ?_; omega; exact own5.all (cst_range _ (turnN_lt L i H256.out)); rintro e u6 ⟨hr, bel6⟩; rw [H2.out] at hr; obtain ⟨rfl, rx6⟩ := read_got hr; have bw6 := bw5.trans (bel6.mono bw5.size); have own6 := own5.below bel6; have rb6 := w0.below bw6)
        | (go_at_call 12; refine (same_any _ _ _ _ _ (cst ns) (cst ns) _ ?_ ?_ ?_).mono ?_; omega; exact rx6; exact rb6; rintro e u7 ⟨rfl, k7, hu7⟩; have bw7 : Below w.heap.size w u7 := (by rw [hu7]; exact below_drewN bw6 k7); have own7 : Own u7 u1.heap.size g (2 * len0 + 2) c (cst (turnN L i)) := (by rw [hu7]; exact own6.drewN k7); clear hu7)
        | (go_at_call 20; refine (turn_any u1.heap.size _ _ _ _ (turnN L i) _ ?_ ?_ (turnN_lt L i H256.out) ?_).mono ?_; omega; exact hj; exact own7; rintro e u8 ⟨rfl, own8, g8⟩; have bw8 := bw7.grown g8 bw7.size (fun q hq => by cases hq; have := bel1.size; omega))
        | (go_at_call 18; refine (read_ok _ _ _ (len0 + 1) (turnN (turnN L i) j) _ ?_ hm (turnN_lt _ _ (turnN_lt L i H256.out)) ?_).mono ?_; omega; exact own8.all (cst_range _ (turnN_lt _ _ (turnN_lt L i H256.out))); rintro e u9 ⟨hr, bel9⟩; rw [H4.out] at hr; have hr9 : e = .returned (.tuple #[.slice none 0 0, .int .i64 0, .int .i64 30]) := hr; clear hr; subst hr9; have bw9 := bw8.trans (bel9.mono bw8.size)))
      go_ret
      exact ⟨rfl, bw9⟩
  · have hgt : 4095 < len0 := by omega
    go_enter Try.func5, Try.ntmps5
    go_wp2_with (first
      | (go_at_call 8; refine (heads_any _).mono ?_; rintro e u1 ⟨rfl, bel1⟩)
      | (go_at_call 9; refine (lay_bad _ _ _ _ hgt ?_).mono ?_; omega; rintro e u ⟨rfl, rfl⟩)
      | (go_at_call 10; refine (no_any _ _).mono ?_; rintro e u ⟨rfl, rfl⟩))
    go_ret
    exact ⟨rfl, bel1⟩

set_option maxRecDepth 100000 in
theorem lifted (os : Os) (started : os.Started) (H : Type) (enc : TypeId × Value → H) :
    ReturnsInHanded {} Try.checked os 5 .any (Rows.railBackSpec.pre6 enc Try.prog Try.f5 Rows.railBackRow.domain false) (Rows.railBackSpec.post enc Try.prog Try.f5 false true false false) := by
  refine returnsInHanded_of_change_sized (C := Try.checked) own started (by kernel_rfl) Try.func5
    (ChangeSpec.witness6 (enc := enc) (C := Try.checked) false ⟨#[], #[.slice none 0 0, .int .i64 0, .int .i64 0], []⟩ 8 (by kernel_rfl) (by kernel_rfl) (by kernel_rfl) (by kernel_rfl)) ?_
  intro W base args ds gs before hval0 hW hcnd hsz0 _
  have hval : ∀ (j : Nat) t v, Try.f5.params[j]? = some t → args[j]? = some v → Value.okWide Try.prog W .any base t v := hval0
  have hsz : (DataW.weightsEach Try.prog (Try.f5.params.toList ++ Rows.railBackSpec.plain.varTypes Try.prog) (ds ++ gs)).all (· ≤ reachBytes) = true := hsz0
  clear hsz0
  have hW' := hW
  obtain ⟨p, q, hA0, hV, rfl, hfz, hnd⟩ := hW
  have hA : DataW.TrodAll enc Try.prog W 0 (fun _ => true) true Try.f5.params.toList args.toList ds p := hA0
  rw [Try.params5] at hA hval hsz
  obtain ⟨v0, vs0, d0, ds0, p0, q0, hargs, rfl, rfl, h0, r0⟩ := trodAll_cons hA
  obtain ⟨v1, vs1, d1, ds1, p1, q1, rfl, rfl, rfl, h1, r1⟩ := trodAll_cons r0
  obtain ⟨v2, vs2, d2, ds2, p2, q2, rfl, rfl, rfl, h2, r2⟩ := trodAll_cons r1
  obtain ⟨rfl, rfl, rfl⟩ := trodAll_nil r2
  obtain rfl : args = #[v0, v1, v2] := by cases args; simp_all
  obtain ⟨rfl, rfl⟩ := trodVars_none hV
  obtain ⟨a0, len0, cap0, rfl⟩ := okWide_slice Try.underlying22 (hval 0 22 v0 rfl rfl)
  have k0 := h0
  have lt0 : ∀ x ∈ p0, x.block < W.heap.size := by obtain ⟨m, hm⟩ := k0; exact DataW.trod_lt m _ _ _ hm
  obtain ⟨z0, w0, s0⟩ : ∃ zs, Reads W a0 len0 zs ∧ len0 ≤ 140737488351232 := by
    obtain ⟨fuel, hf⟩ := h0
    rcases open_ints Try.underlying22 Try.underlying5 (by kernel_rfl) hf with ⟨hcs, _⟩ | ⟨x, l, c, zs, hcs, _, hl, hm, hz, hx, hcell, hwz⟩
    · simp [Value.cells] at hcs
      obtain ⟨rfl, rfl, rfl⟩ := hcs
      exact ⟨[], ⟨rfl, by simp, fun _ => rfl, fun _ h => by cases h⟩, by omega⟩
    · simp [Value.cells] at hcs
      obtain ⟨rfl, rfl, rfl⟩ := hcs
      have hz' : zs.length = cap0 := by simpa using hz
      have hd := (Prod.mk.inj hx).1
      have hw := sized_slice hsz (j := 0) (t := 22) (e := 5) rfl (congrArg some hd) Try.underlying22
      rw [bytes5] at hw
      simp only [lits, List.length_map, List.length_take, List.length_drop, reachBytes] at hw
      refine ⟨zs.take len0, ⟨by simp; omega, fun n hn => bounds_u8 (hwz n (List.mem_of_mem_take hn)), (fun h => by cases h), fun y hy i hi => ?_⟩, by omega⟩
      cases hy
      rw [hcell i (by omega)]
      simp [List.getD, hi]
  obtain ⟨a1, rfl, rfl, rfl, w1⟩ := open_int Try.underlying3 (hval 1 3 v1 rfl rfl) h1
  obtain ⟨a2, rfl, rfl, rfl, w2⟩ := open_int Try.underlying3 (hval 2 3 v2 rfl rfl) h2
  clear hA0 hval0
  refine (walk a0 len0 cap0 z0 a1 a2 W w0 s0 w1 w2).mono fun e W' ⟨he, bel⟩ => ?_
  subst he
  exact ⟨_, rfl, _, _, _, [], _, [], hW', trodAll_mk1 (shut_bool Try.underlying4 _), (trodAll_cons_mk (Below.trod laidOut (by kernel_rfl) (of_decide_eq_true (by kernel_rfl)) k0 bel lt0) (trodAll_cons_mk (shut_int Try.underlying3 w1) (trodAll_cons_mk (shut_int Try.underlying3 w2) trodAll_mk0))), rfl, bel.frame _, fun h => by cases h⟩

theorem over : Rows.railBackRow.holds Try.pinned (OpenSpec.ofChange Rows.railBackSpec) :=
  OpenClaim.holds_of_wide 5 Try.f5 rfl rfl rfl rfl rfl rfl rfl ⟨rfl, rfl, rfl, rfl, rfl⟩ rfl rfl rfl rfl rfl (by kernel_rfl) Try.func5 (by kernel_rfl)
    (of_decide_eq_true (by kernel_rfl)) (by unfold Func.isWrapper; first | (rw [if_pos (by decide +kernel)]; kernel_rfl) | (rw [if_neg (by decide +kernel)]; exact ⟨rfl, rfl⟩))
    (fun os started H enc _ => lifted os started H enc)

end Go.Proofs.Ytkcpfcnpniblcad.railBack
namespace Go.Proofs.Ytkcpfcnpniblcad
theorem railBack_holds : Rows.RailBackSaid := railBack.over
#print axioms railBack_holds
end Go.Proofs.Ytkcpfcnpniblcad

