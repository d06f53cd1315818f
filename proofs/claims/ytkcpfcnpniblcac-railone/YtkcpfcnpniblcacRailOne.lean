/-
  SEAT Ytkcpfcnpniblcac: RailOne.
-/
import Derived.Test.YtkcpfcnpniblcacApt
import Derived.WalkKit
import Derived.ProofKit
import Derived.OpenShut
import Derived.ShutString
import Derived.ChangeOld
import Derived.Below
import Derived.SizedLaws
namespace Go.Proofs.Ytkcpfcnpniblcac.railOne
open Go.ChangeShapes Go.WideShapes Go.ChangeAt Go.RowKit
open Go.ChangeMaps (open_string shut_string)
set_option linter.unusedVariables false

theorem own : ownKnob Try.prog.godebug = none := by kernel_rfl
theorem bytes5 : Try.prog.bytesOf 5 = 1 := by kernel_rfl
theorem laidOut : laidOutB Try.prog = true := by kernel_rfl

theorem one_pow : ∀ j : Nat, j < 8 → bits .and .u8 (((2 ^ j : Nat) : Int) / 2 ^ (2 * (j / 2))) 3 = ((2 ^ (j % 2) : Nat) : Int) := by decide +kernel
theorem row_at (L : List Nat) (w : World) (b off n k : Nat) (h : ∀ i, i < n → w.cell? ⟨b, off + i, none⟩ = some (.int .u8 ((cst L).getD i 0))) (hk : k < n) (hL : ∀ x ∈ L, x < 256) : Reads w (some ⟨b, off + k, none⟩) 1 (cst [L.getD k 0]) := by
  refine ⟨rfl, cst_range _ (by intro x hx; simp at hx; subst hx; exact at_lt hL k), (fun h => by cases h), fun x hx i hi => ?_⟩
  cases hx
  have : i = 0 := by omega
  subst this
  rw [plain_add, Nat.add_zero, h k hk, cst_getD]
  rfl
theorem apart_q (a a' : Option Addr) (n c c' : Nat) (xs ys : List Nat) (w : World) (hn : n ≤ 10000) (hx : ∀ x ∈ xs, x < 256) (hy : ∀ x ∈ ys, x < 256) (h : Reads w a n (cst xs)) (h' : Reads w a' n (cst ys)) (D : Nat) (hD : distL xs ys = D) (q : Nat) :
    Calls Try.prog 10 #[.slice a n c, .slice a' n c'] (w.drewN q) fun e w' => e = .returned (.int .i64 (D : Int)) ∧ ∃ m, w' = w.drewN m :=
  (apart_any a a' n c c' xs ys (w.drewN q) hn hx hy (h.drewN q) (h'.drewN q)).mono fun e u ⟨h1, k, h2⟩ => ⟨by rw [h1, hD], q + k, by rw [h2, World.drewN_drewN]⟩

set_option maxHeartbeats 1000000 in
set_option maxRecDepth 100000 in
theorem walk (a0 : Option Addr) (len0 cap0 : Nat) (z0 : List Int) (w : World) (w0 : Reads w a0 len0 z0) (s0 : len0 ≤ 140737488351232) (hcap : len0 ≤ cap0) :
    Calls Try.prog 4 #[.slice a0 len0 cap0] w fun e w' => e = .returned (.bool true) ∧ Below w.heap.size w w' := by
  have bad : ∀ E : Int, E ≠ 0 → (∀ u, Reads u a0 len0 z0 → Calls Try.prog 8 #[.slice a0 len0 cap0] u fun e u' => e = .returned (.tuple #[.slice none 0 0, .int .i64 0, .int .i64 E]) ∧ Below u.heap.size u u') → Calls Try.prog 4 #[.slice a0 len0 cap0] w fun e w' => e = .returned (.bool true) ∧ Below w.heap.size w w' := by
    intro E hE crd
    have HRD : Hid _ := crd
    have hE2 : (E == 0) = false := by simpa using hE
    clear crd
    go_enter Try.func4, Try.ntmps4
    go_wp2_with (first
      | (go_at_call 5; refine (heads_any _).mono ?_; rintro e u1 ⟨rfl, bel1⟩; have rb1 := w0.below bel1)
      | (go_at_call 8; refine (HRD.out _ rb1).mono ?_; rintro e u2 ⟨rfl, bel2⟩; have bw2 := bel1.trans (bel2.mono bel1.size))
      | (go_at_call 7; refine (no_any _ _).mono ?_; rintro e u ⟨rfl, rfl⟩))
    go_ret
    exact ⟨rfl, bw2⟩
  by_cases hbad : len0 % 2 = 1 ∨ len0 < 2 ∨ 8192 < len0
  · exact bad 31 (by decide) fun u h => (read_bad a0 len0 cap0 u (by omega) hbad).mono fun e u' ⟨h1, h2⟩ => ⟨h1, by subst h2; exact Below.refl _ _⟩
  · obtain ⟨N, hN⟩ : ∃ N, len0 = 2 * N + 2 := ⟨len0 / 2 - 1, by omega⟩
    obtain ⟨xs, hxs⟩ : ∃ xs, xs = z0.map Int.toNat := ⟨_, rfl⟩
    obtain ⟨hc, hx⟩ := cst_of z0 w0.2.1
    rw [← hxs] at hc hx
    have hxl : xs.length = 2 * (N + 1) := by rw [hxs, List.length_map]; have := w0.1; omega
    subst hc
    clear hxs
    have hm : 1 ≤ N + 1 ∧ N + 1 ≤ 4096 := by omega
    match hr : readN xs with
    | none => exact bad 30 (by decide) fun u h => (read_ok a0 len0 cap0 (N + 1) xs u (by omega) hm hx h).mono fun e u' ⟨h1, h2⟩ => ⟨by rw [hr] at h1; exact h1, h2⟩
    | some (zs, n) =>
      clear bad
      have h3 := read_one xs (N + 1) hxl (by omega) hx zs n hr
      obtain ⟨hzl, hz256, hdis⟩ := h3
      obtain ⟨L, hL⟩ : ∃ L, L = layLN (zs ++ [colN zs]) := ⟨_, rfl⟩
      rw [← hL] at hdis
      have hL256 : ∀ x ∈ L, x < 256 := by rw [hL]; exact layLN_lt _
      have hlay : layL (cst zs ++ [colF (cst zs)]) = cst L := by rw [col_cst zs hz256, hL, ← lay_cst]; simp [cst]
      have hN1 : N ≤ 4095 := by omega
      subst hN
      have HRD : Hid (∀ u, Reads u a0 (2 * N + 2) (cst xs) → Calls Try.prog 8 #[.slice a0 (2 * N + 2) cap0] u fun e u' => (e = .returned (.tuple #[.slice (some ⟨u.heap.size, 0, none⟩) N (N + 1), .int .i64 n, .int .i64 0]) ∧ Reads u' (some ⟨u.heap.size, 0, none⟩) N (cst zs)) ∧ Below u.heap.size u u') := fun u h =>
        (read_ok a0 (2 * N + 2) cap0 (N + 1) xs u (by omega) hm hx h).mono fun e u' ⟨h1, h2⟩ => ⟨by rw [hr] at h1; exact read_got h1, h2⟩
      have HLAY : Hid (layL (cst zs ++ [colF (cst zs)]) = cst L) := hlay
      have HL256 : Hid (∀ x ∈ L, x < 256) := hL256
      have HX : Hid (∀ x ∈ xs, x < 256) := hx
      clear hr hL hlay hL256 hx hz256 hm hbad
      rcases hdis with ⟨rfl, hsame⟩ | ⟨i, hi, hni, hturn⟩
      · subst hsame
        have hdec : decide (cst L = cst L) = true := by simp
        clear hxl hzl
        go_enter Try.func4, Try.ntmps4
        go_wp2_with (first
          | (go_at_call 5; refine (heads_any _).mono ?_; rintro e u1 ⟨rfl, bel1⟩; have rb1 := w0.below bel1)
          | (go_at_call 8; refine (HRD.out _ rb1).mono ?_; rintro e u2 ⟨⟨rfl, rx2⟩, bel2⟩; have bw2 := bel1.trans (bel2.mono bel1.size))
          | (go_at_call 7; refine (no_any _ _).mono ?_; rintro e u ⟨rfl, rfl⟩)
          | (go_at_call 6; refine (lay_ok _ _ _ (cst zs) _ hN1 ?_).mono ?_; exact rx2; rintro e u3 ⟨g, c, rfl, own3, bel3⟩; rw [HLAY.out] at own3; have bw3 := bw2.trans (bel3.mono bw2.size); have rb3 := w0.below bw3; have rl3 := own3.all (cst_range _ HL256.out))
          | (go_at_call 9; refine (same_any _ _ _ _ _ (cst L) (cst L) _ ?_ ?_ ?_).mono ?_; omega; exact rl3; exact rb3; rintro e u4 ⟨rfl, k4, rfl⟩))
        go_ret
        exact ⟨rfl, below_drewN bw3 _⟩
      · obtain ⟨q, hq⟩ : ∃ q, q = i / 2 := ⟨_, rfl⟩
        rw [← hq] at hni
        subst hni
        obtain ⟨Q, hQ⟩ : ∃ Q, Q = q / 4 := ⟨_, rfl⟩
        obtain ⟨r, hrr⟩ : ∃ r, r = q % 4 := ⟨_, rfl⟩
        have hQ8 : i / 8 = Q := by omega
        have hQl : Q < 2 * N + 2 := by omega
        have hQi : (q : Int) / 4 = (Q : Int) := by omega
        have hri : (q : Int) % 4 = (r : Int) := by omega
        have hr4 : r ≤ 3 := by omega
        have hqn : (q : Int) < 4 * (2 * (N : Int) + 2) := by omega
        have hQn : (Q : Int) < 2 * (N : Int) + 2 := by omega
        obtain ⟨x, hxe⟩ : ∃ x, x = xs.getD Q 0 := ⟨_, rfl⟩
        obtain ⟨y, hye⟩ : ∃ y, y = L.getD Q 0 := ⟨_, rfl⟩
        have x256 : x < 256 := by rw [hxe]; exact at_lt HX.out _
        have y256 : y < 256 := by rw [hye]; exact at_lt HL256.out _
        have hyx : y = x ^^^ 2 ^ (i % 8) := by rw [hye, hturn, turnN, hQ8, getD_set_self _ _ _ (by omega), ← hxe]
        have hexy : y ^^^ x = 2 ^ (i % 8) := by rw [hyx, xor_back]
        have hxor : bits .xor .u8 (y : Int) (x : Int) = ((2 ^ (i % 8) : Nat) : Int) := by rw [u8_xor_nat y x y256 x256, hexy]
        have hpw := one_pow (i % 8) (by omega)
        obtain ⟨e, he⟩ : ∃ e, e = 2 ^ (i % 8) := ⟨_, rfl⟩
        rw [← he] at hxor hpw
        rw [show i % 8 / 2 = r by omega] at hpw
        obtain ⟨f, hf⟩ : ∃ f, f = 2 ^ (i % 8 % 2) := ⟨_, rfl⟩
        rw [← hf] at hpw
        have hf0 : ((f : Int) == 0) = false := by
          have : 0 < f := by rw [hf]; exact Nat.pow_pos (by omega)
          simp
          omega
        have hf1 : ((f : Int) != 0) = true := by rw [bne, hf0]; rfl
        have hdist : distL L xs = 1 := by rw [hturn]; exact dist_turn xs i (by omega)
        have hdist1 : distL [y] [x] = 1 := by
          simp only [distL, hexy]
          rw [pc_pow _ (by omega)]
        obtain ⟨b, off, rfl, hb, hcell⟩ := w0.pos (by omega)
        have hcQ : w.cell? ⟨b, off + Q, none⟩ = some (.int .u8 (x : Int)) := by rw [hxe, ← cst_getD]; exact hcell Q hQl
        have hcc : ¬ (cap0 = Q) := by omega
        have hcc2 : (Q : Int) + 1 ≤ (cap0 : Int) := by omega
        have rx1 := row_at xs w b off (2 * N + 2) Q hcell hQl HX.out
        rw [← hxe] at rx1
        have HRX1 : Hid (Reads _ _ _ _) := rx1
        have HD : Hid (distL L xs = 1) := hdist
        have HD1 : Hid (distL [y] [x] = 1) := hdist1
        have HYE : Hid (y = L.getD Q 0) := hye
        clear hxe hye hyx hexy he hf hturn hdist hdist1 hcell rx1 hQ hrr hQ8 hq hi hxl hzl
        go_enter Try.func4, Try.ntmps4
        go_wp2_with (first
          | (go_at_call 5; refine (heads_any _).mono ?_; rintro e u1 ⟨rfl, bel1⟩; have rb1 := w0.below bel1)
          | (go_at_call 8; refine (HRD.out _ rb1).mono ?_; rintro e u2 ⟨⟨rfl, rx2⟩, bel2⟩; have bw2 := bel1.trans (bel2.mono bel1.size))
          | (go_at_call 7; refine (no_any _ _).mono ?_; rintro e u ⟨rfl, rfl⟩)
          | (go_at_call 6; refine (lay_ok _ _ _ (cst zs) _ hN1 ?_).mono ?_; exact rx2; rintro e u3 ⟨g, c, rfl, own3, bel3⟩; rw [HLAY.out] at own3; have bw3 := bw2.trans (bel3.mono bw2.size); have rb3 := w0.below bw3; have rl3 := own3.all (cst_range _ HL256.out)))
        have hcap3 : 2 * N + 2 ≤ c := by obtain ⟨_, _, e, h3, _⟩ := own_shape own3 (by omega); simp at e; omega
        have hgc : ¬ (c = Q) := by omega
        have hgc2 : (Q : Int) + 1 ≤ (c : Int) := by omega
        have hcg : u3.cell? ⟨g, Q, none⟩ = some (.int .u8 (y : Int)) := by rw [HYE.out, ← cst_getD]; exact own3.cell Q hQl
        have hcb : u3.cell? ⟨b, off + Q, none⟩ = some (.int .u8 (x : Int)) := (bw3.cell hb).trans hcQ
        have ry1 : Reads u3 (some ⟨g, Q, none⟩) 1 (cst [y]) := by
          have h5 := row_at L u3 g 0 (2 * N + 2) Q (fun i hi => by rw [Nat.zero_add]; exact own3.cell i hi) hQl HL256.out
          rw [Nat.zero_add, ← HYE.out] at h5
          exact h5
        have q1 := apart_q (some ⟨g, 0, none⟩) (some ⟨b, off, none⟩) (2 * N + 2) c cap0 L xs u3 (by omega) HL256.out HX.out rl3 rb3 1 HD.out
        have q2 := apart_q (some ⟨g, Q, none⟩) (some ⟨b, off + Q, none⟩) 1 (c - Q) (cap0 - Q) [y] [x] u3 (by omega) (by simpa using y256) (by simpa using x256) ry1 (HRX1.out.below bw3) 1 HD1.out
        have HQ1 : Hid _ := q1
        have HQ2 : Hid _ := q2
        clear q1 q2 ry1 rl3 rb3 own3 bel3 rx2 rb1 HRD HLAY HL256 HX HRX1 HD HD1 HYE w0 hcQ
        go_quiet (first
          | (go_at_call 10; with_reducible exact HQ1.out _)
          | (go_at_call 10; with_reducible exact HQ2.out _))
        all_goals go_wp2
        all_goals go_ret
        all_goals exact ⟨rfl, below_drewN bw3 _⟩

set_option maxRecDepth 100000 in
theorem lifted (os : Os) (started : os.Started) (H : Type) (enc : TypeId × Value → H) :
    ReturnsInHanded {} Try.checked os 4 .any (Rows.railOneSpec.pre6 enc Try.prog Try.f4 Rows.railOneRow.domain false) (Rows.railOneSpec.post enc Try.prog Try.f4 false true false false) := by
  refine returnsInHanded_of_change_sized (C := Try.checked) own started (by kernel_rfl) Try.func4
    (ChangeSpec.witness6 (enc := enc) (C := Try.checked) false ⟨#[], #[.slice none 0 0], []⟩ 8 (by kernel_rfl) (by kernel_rfl) (by kernel_rfl) (by kernel_rfl)) ?_
  intro W base args ds gs before hval0 hW hcnd hsz0 _
  have hval : ∀ (j : Nat) t v, Try.f4.params[j]? = some t → args[j]? = some v → Value.okWide Try.prog W .any base t v := hval0
  have hsz : (DataW.weightsEach Try.prog (Try.f4.params.toList ++ Rows.railOneSpec.plain.varTypes Try.prog) (ds ++ gs)).all (· ≤ reachBytes) = true := hsz0
  clear hsz0
  have hW' := hW
  obtain ⟨p, q, hA0, hV, rfl, hfz, hnd⟩ := hW
  have hA : DataW.TrodAll enc Try.prog W 0 (fun _ => true) true Try.f4.params.toList args.toList ds p := hA0
  rw [Try.params4] at hA hval hsz
  obtain ⟨v0, vs0, d0, ds0, p0, q0, hargs, rfl, rfl, h0, r0⟩ := trodAll_cons hA
  obtain ⟨rfl, rfl, rfl⟩ := trodAll_nil r0
  obtain rfl : args = #[v0] := by cases args; simp_all
  obtain ⟨rfl, rfl⟩ := trodVars_none hV
  obtain ⟨a0, len0, cap0, rfl⟩ := okWide_slice Try.underlying22 (hval 0 22 v0 rfl rfl)
  have k0 := h0
  have lt0 : ∀ x ∈ p0, x.block < W.heap.size := by obtain ⟨m, hm⟩ := k0; exact DataW.trod_lt m _ _ _ hm
  obtain ⟨z0, w0, s0, c0⟩ : ∃ zs, Reads W a0 len0 zs ∧ len0 ≤ 140737488351232 ∧ len0 ≤ cap0 := by
    obtain ⟨fuel, hf⟩ := h0
    rcases open_ints Try.underlying22 Try.underlying5 (by kernel_rfl) hf with ⟨hcs, _⟩ | ⟨x, l, c, zs, hcs, _, hl, hm, hz, hx, hcell, hwz⟩
    · simp [Value.cells] at hcs
      obtain ⟨rfl, rfl, rfl⟩ := hcs
      exact ⟨[], ⟨rfl, by simp, fun _ => rfl, fun _ h => by cases h⟩, by omega, by omega⟩
    · simp [Value.cells] at hcs
      obtain ⟨rfl, rfl, rfl⟩ := hcs
      have hz' : zs.length = cap0 := by simpa using hz
      have hd := (Prod.mk.inj hx).1
      have hw := sized_slice hsz (j := 0) (t := 22) (e := 5) rfl (congrArg some hd) Try.underlying22
      rw [bytes5] at hw
      simp only [lits, List.length_map, List.length_take, List.length_drop, reachBytes] at hw
      refine ⟨zs.take len0, ⟨by simp; omega, fun n hn => bounds_u8 (hwz n (List.mem_of_mem_take hn)), (fun h => by cases h), fun y hy i hi => ?_⟩, by omega, by omega⟩
      cases hy
      rw [hcell i (by omega)]
      simp [List.getD, hi]
  clear hA0 hval0
  refine (walk a0 len0 cap0 z0 W w0 s0 c0).mono fun e W' ⟨he, bel⟩ => ?_
  subst he
  exact ⟨_, rfl, _, _, _, [], _, [], hW', trodAll_mk1 (shut_bool Try.underlying4 _), (trodAll_cons_mk (Below.trod laidOut (by kernel_rfl) (of_decide_eq_true (by kernel_rfl)) k0 bel lt0) trodAll_mk0), rfl, bel.frame _, fun h => by cases h⟩

theorem over : Rows.railOneRow.holds Try.pinned (OpenSpec.ofChange Rows.railOneSpec) :=
  OpenClaim.holds_of_wide 4 Try.f4 rfl rfl rfl rfl rfl rfl rfl ⟨rfl, rfl, rfl, rfl, rfl⟩ rfl rfl rfl rfl rfl (by kernel_rfl) Try.func4 (by kernel_rfl)
    (of_decide_eq_true (by kernel_rfl)) (by unfold Func.isWrapper; first | (rw [if_pos (by decide +kernel)]; kernel_rfl) | (rw [if_neg (by decide +kernel)]; exact ⟨rfl, rfl⟩))
    (fun os started H enc _ => lifted os started H enc)

end Go.Proofs.Ytkcpfcnpniblcac.railOne
namespace Go.Proofs.Ytkcpfcnpniblcac
theorem railOne_holds : Rows.RailOneSaid := railOne.over
#print axioms railOne_holds
end Go.Proofs.Ytkcpfcnpniblcac

