/-
  SEAT Ytkcpfcnpniblcad: RailFar.
-/
import Derived.Test.YtkcpfcnpniblcadApt
import Derived.WalkKit
import Derived.ProofKit
import Derived.OpenShut
import Derived.ShutString
import Derived.ChangeOld
import Derived.Below
import Derived.SizedLaws
namespace Go.Proofs.Ytkcpfcnpniblcad.railFar
open Go.ChangeShapes Go.WideShapes Go.ChangeAt Go.RowKit
open Go.ChangeMaps (open_string shut_string)
set_option linter.unusedVariables false

theorem own : ownKnob Try.prog.godebug = none := by kernel_rfl
theorem bytes5 : Try.prog.bytesOf 5 = 1 := by kernel_rfl
theorem laidOut : laidOutB Try.prog = true := by kernel_rfl

def dN (ys : List Nat) (k : Nat) : List Nat := (List.range k).map (fun i => ys.getD i 0)
theorem dN_succ (ys : List Nat) (k : Nat) : dN ys (k + 1) = dN ys k ++ [ys.getD k 0] := by simp [dN, List.range_succ]
theorem dN_length (ys : List Nat) (k : Nat) : (dN ys k).length = k := by simp [dN]
theorem dN_lt (ys : List Nat) (k : Nat) (h : ∀ y ∈ ys, y < 256) : ∀ x ∈ dN ys k, x < 256 := by
  intro x hx
  obtain ⟨i, _, rfl⟩ := List.mem_map.1 hx
  exact at_lt h i
theorem cst_snoc (xs : List Nat) (x : Nat) : (cst (xs ++ [x])).map (Value.int .u8) = (cst xs).map (Value.int .u8) ++ [Value.int .u8 (x : Int)] := by simp [cst]
theorem lay_at (L : List Nat) (w : World) (B g n c k : Nat) (own : Own w B g n c (cst L)) (hk : k < n) (hL : ∀ x ∈ L, x < 256) : Reads w (some ⟨g, k, none⟩) 1 (cst [L.getD k 0]) := by
  refine ⟨rfl, cst_range _ (by intro x hx; simp at hx; subst hx; exact at_lt hL k), (fun h => by cases h), fun x hx i hi => ?_⟩
  cases hx
  have : i = 0 := by omega
  subst this
  rw [plain_add, Nat.add_zero, own.cell k hk, cst_getD]
  rfl
theorem cst_inj {xs ys : List Nat} (h : cst xs = cst ys) : xs = ys := by
  have := congrArg (List.map Int.toNat) h
  unfold cst at this
  rw [List.map_map, List.map_map] at this
  have e : (Int.toNat ∘ fun n : Nat => (n : Int)) = id := by funext n; simp
  rw [e, List.map_id, List.map_id] at this
  exact this
theorem zero_reads (w : World) : Reads (w.alloc (.cells #[.int .u8 0] 5)) (some ⟨w.heap.size, 0, none⟩) 1 (cst [0]) := one_reads w 0 (by decide) (by decide)
theorem dist_one (x : Nat) : distL [x] [0] = pcK x 8 := by simp [distL]

set_option maxHeartbeats 2000000 in
set_option maxRecDepth 100000 in
theorem walk (a0 : Option Addr) (len0 cap0 : Nat) (z0 : List Int) (a1 : Option Addr) (len1 cap1 : Nat) (z1 : List Int) (w : World) (w0 : Reads w a0 len0 z0) (s0 : len0 ≤ 140737488351232) (w1 : Reads w a1 len1 z1) (s1 : len1 ≤ 140737488351232) :
    Calls Try.prog 3 #[.slice a0 len0 cap0, .slice a1 len1 cap1] w fun e w' => e = .returned (.bool true) ∧ Below w.heap.size w w' := by
  obtain ⟨i0, hi, hz0, hz1, hz2⟩ := info_parts info5
  obtain ⟨hc0, hx0⟩ := cst_of z0 w0.2.1
  obtain ⟨hc1, hx1⟩ := cst_of z1 w1.2.1
  obtain ⟨ns, hns⟩ : ∃ ns, ns = z0.map Int.toNat := ⟨_, rfl⟩
  obtain ⟨ys, hys⟩ : ∃ ys, ys = z1.map Int.toNat := ⟨_, rfl⟩
  rw [← hns] at hc0 hx0
  rw [← hys] at hc1 hx1
  have hnl : ns.length = len0 := by rw [hns, List.length_map]; exact w0.1
  have hyl : ys.length = len1 := by rw [hys, List.length_map]; exact w1.1
  subst hc0
  subst hc1
  clear hns hys
  have HX0 : Hid (∀ x ∈ ns, x < 256) := hx0
  have HX1 : Hid (∀ x ∈ ys, x < 256) := hx1
  clear hx0 hx1
  go_enter Try.func3, Try.ntmps3
  go_wp2_with (first
    | (go_at_call 8; refine (heads_any _).mono ?_; rintro e u1 ⟨rfl, bel1⟩))
  have z1s := bel1.size
  go_loopw [5, 6] (fun v i wr => ∃ k : Nat, k ≤ len0 ∧ i = .int .i64 k ∧ wr.ownsRow w.heap.size 5 1 v k ((cst (dN ys k)).map (Value.int .u8)) ∧ Below w.heap.size w wr)
    (fun _ i _ => len0 - (intOf i).toNat)
  case atStart => exact ⟨0, Nat.zero_le _, rfl, World.ownsRow_nil _ _ _ _, bel1⟩
  case round =>
    obtain ⟨k, hk, rfl, hown, hbel⟩ := hrel
    rename_i v wr
    by_cases hlt : k < len0
    · obtain ⟨x, hx⟩ : ∃ x, x = ys.getD k 0 := ⟨_, rfl⟩
      have HS : Hid ((cst (dN ys (k + 1))).map (Value.int .u8) = (cst (dN ys k)).map (Value.int .u8) ++ [Value.int .u8 (x : Int)]) := by unfold Hid; rw [dN_succ, cst_snoc, hx]
      have m1 : (k : Int) < (len0 : Int) := by omega
      have hd1 : decide ((k : Int) < (len0 : Int)) = true := decide_eq_true m1
      have hsz := hbel.size
      by_cases h1 : k < len1
      · obtain ⟨b, off, rfl, hb, hcell⟩ := w1.pos (by omega)
        have hcx : wr.cell? ⟨b, off + k, none⟩ = some (.int .u8 (x : Int)) := by rw [hx, ← cst_getD]; exact (hbel.cell (by exact hb)).trans (hcell k h1)
        have m2 : (k : Int) < (len1 : Int) := by omega
        have hd2 : decide ((k : Int) < (len1 : Int)) = true := decide_eq_true m2
        clear hcell hx
        go_wp2_with (
          (at_builtin; refine wpList_append_own _ rfl _ _ 22 rfl w.heap.size 5 i0 (.int .u8 0) 1 1 Try.underlying22 hi hz0 hz1 hz2 rfl (by decide) _ _ _ rfl (hown.alloc _) ⟨_, 0, none⟩ 1 1 [.int .u8 (x : Int)] rfl rfl (news_one _ _) (by simp [Value.oneCell']) (by simp [maxLen]; omega) (by omega) (by simp; omega) ?_; intro v2 w2 hown2 hgrow2 _))
        have hbel3 := (hbel.alloc hbel.size _).grown hgrow2 (by simp; omega) (fun k hk => (hown.lt k hk).1)
        rw [← HS.out] at hown2
        go_wp2
        go_roundw
        case rel => exact ⟨k + 1, by omega, by go_num, hown2, hbel3⟩
        case measure => simp [intOf]; omega
      · have hx0 : x = 0 := by rw [hx, List.getD_eq_getElem?_getD, List.getElem?_eq_none (by omega)]; rfl
        subst hx0
        have m2 : (len1 : Int) ≤ (k : Int) := by omega
        have hd2 : decide ((k : Int) < (len1 : Int)) = false := decide_eq_false (by omega)
        clear hx
        go_wp2_with (
          (at_builtin; refine wpList_append_own _ rfl _ _ 22 rfl w.heap.size 5 i0 (.int .u8 0) 1 1 Try.underlying22 hi hz0 hz1 hz2 rfl (by decide) _ _ _ rfl (hown.alloc _) ⟨_, 0, none⟩ 1 1 [.int .u8 0] rfl rfl (news_one _ _) (by simp [Value.oneCell']) (by simp [maxLen]; omega) (by omega) (by simp; omega) ?_; intro v2 w2 hown2 hgrow2 _))
        have hbel3 := (hbel.alloc hbel.size _).grown hgrow2 (by simp; omega) (fun k hk => (hown.lt k hk).1)
        have hown3 : w2.ownsRow w.heap.size 5 1 v2 (k + 1) ((cst (dN ys (k + 1))).map (Value.int .u8)) := by rw [HS.out]; exact hown2
        clear hown2
        go_wp2
        go_roundw
        case rel => exact ⟨k + 1, by omega, by go_num, hown3, hbel3⟩
        case measure => simp [intOf]; omega
    · have hkn : k = len0 := by omega
      subst hkn
      obtain ⟨ds, hds⟩ : ∃ ds, ds = dN ys k := ⟨_, rfl⟩
      rw [← hds] at hown
      have hdl : ds.length = k := by rw [hds, dN_length]
      have HD2 : Hid (∀ x ∈ ds, x < 256) := by rw [hds]; exact dN_lt ys k HX1.out
      obtain ⟨ad, cd, rfl, rd⟩ := own_any hown (cst_range _ HD2.out)
      have rb := w0.below hbel
      clear hds hown w1
      by_cases hle : k ≤ 4095
      · obtain ⟨L, hL⟩ : ∃ L, L = layLN (ns ++ [colN ns]) := ⟨_, rfl⟩
        obtain ⟨M, hM⟩ : ∃ M, M = layLN (ds ++ [colN ds]) := ⟨_, rfl⟩
        have hL256 : ∀ x ∈ L, x < 256 := by rw [hL]; exact layLN_lt _
        have hM256 : ∀ x ∈ M, x < 256 := by rw [hM]; exact layLN_lt _
        have hLl : L.length = 2 * k + 2 := by rw [hL, layLN_length]; simp [hnl]; omega
        have hMl : M.length = 2 * k + 2 := by rw [hM, layLN_length]; simp [hdl]; omega
        have hl1 : layL (cst ns ++ [colF (cst ns)]) = cst L := by rw [col_cst ns HX0.out, hL, ← lay_cst]; simp [cst]
        have hl2 : layL (cst ds ++ [colF (cst ds)]) = cst M := by rw [col_cst ds HD2.out, hM, ← lay_cst]; simp [cst]
        have h4 : ∀ i, i < 2 * k + 2 → distL [L.getD i 0] [0] = 4 := by
          intro i hi4
          rw [dist_one, hL]
          exact four_lay _ i (by simp [hnl]; omega)
        have hsame : ns = ds → L = M := fun e => by rw [hL, hM, e]
        have hfar : ns ≠ ds → 4 ≤ distL L M := fun e => by rw [hL, hM]; exact far_all ns ds (by omega) HX0.out HD2.out e
        have hle8 : distL L M ≤ 8 * (2 * k + 2) := by rw [← hLl]; exact distL_le L M
        have HLAY1 : Hid (layL (cst ns ++ [colF (cst ns)]) = cst L) := hl1
        have HLAY2 : Hid (layL (cst ds ++ [colF (cst ds)]) = cst M) := hl2
        have H4 : Hid (∀ i, i < 2 * k + 2 → distL [L.getD i 0] [0] = 4) := h4
        have HL256 : Hid (∀ x ∈ L, x < 256) := hL256
        have HM256 : Hid (∀ x ∈ M, x < 256) := hM256
        have HSAME : Hid (ns = ds → L = M) := hsame
        have HFAR : Hid (ns ≠ ds → 4 ≤ distL L M) := hfar
        clear hL hM hL256 hM256 hl1 hl2 h4 hsame hfar
        go_wp2_with (first
          | (go_at_call 9; refine (lay_ok _ _ _ (cst ns) _ hle ?_).mono ?_; exact rb; rintro e u2 ⟨g, c, rfl, own2, bel2⟩; rw [HLAY1.out] at own2; have bw2 := hbel.trans (bel2.mono hbel.size); have rd2 := rd.below bel2)
          | (go_at_call 9; refine (lay_ok _ _ _ (cst ds) _ hle ?_).mono ?_; exact rd2; rintro e u3 ⟨g', c', rfl, own3, bel3⟩; rw [HLAY2.out] at own3; have bw3 := bw2.trans (bel3.mono bw2.size); have ol3 := own2.below bel3; have rd3 := rd2.below bel3; have rb3 := w0.below bw3)
          | (go_at_call 10; refine (no_any _ _).mono ?_; rintro e u ⟨rfl, rfl⟩))
        have hcap : 2 * k + 2 ≤ c := by obtain ⟨_, _, e, h3, _⟩ := own_shape own2 (by omega); simp at e; omega
        clear own2 bel2 bel3 rd rd2 rb
        go_loopw [12] (fun i wr => ∃ j : Nat, j ≤ 2 * k + 2 ∧ i = .int .i64 j ∧ Below u3.heap.size u3 wr)
          (fun i _ => 2 * k + 2 - (intOf i).toNat)
        case atStart => exact ⟨0, Nat.zero_le _, rfl, Below.refl _ _⟩
        case round =>
          obtain ⟨j, hj, rfl, belq⟩ := hrel
          by_cases hlt2 : j < 2 * k + 2
          · have m2 : (j : Int) < 2 * (k : Int) + 2 := by omega
            have hd2 : decide ((j : Int) < 2 * (k : Int) + 2) = true := decide_eq_true m2
            have hjc : ¬ (c = j) := by omega
            have hj1 : (j : Int) + 1 ≤ (c : Int) := by omega
            have hap := apart_any (some ⟨g, j, none⟩) (some ⟨wr.heap.size, 0, none⟩) 1 (c - j) 1 [L.getD j 0] [0] (wr.alloc (.cells #[.int .u8 0] 5)) (by omega) (by intro x hx; simp at hx; subst hx; exact at_lt HL256.out j) (by decide) (lay_at L _ _ g _ c j ((ol3.below belq).below ((Below.refl _ _).alloc (Nat.le_refl _) _)) hlt2 HL256.out) (zero_reads wr)
            rw [H4.out j hlt2] at hap
            have HAP : Hid (Calls _ _ _ _ _) := hap
            clear hap
            go_wp2_with (first
              | (go_at_call 11; refine HAP.out.mono ?_; rintro e u ⟨rfl, q, rfl⟩))
            go_roundw
            case rel => exact ⟨j + 1, by omega, by go_num, below_drewN (belq.alloc belq.size _) _⟩
            case measure => simp [intOf]; omega
          · have hj2 : j = 2 * k + 2 := by omega
            subst hj2
            have bwq := bw3.trans (belq.mono bw3.size)
            have rbq := w0.below bwq
            have rdq := rd3.below belq
            have rlq := (ol3.below belq).all (cst_range _ HL256.out)
            have rmq := (own3.below belq).all (cst_range _ HM256.out)
            by_cases heq : ns = ds
            · have e1 : decide (cst ns = cst ds) = true := by rw [heq]; simp
              have e2 : decide (cst L = cst M) = true := by rw [HSAME.out heq]; simp
              go_wp2_with (first
                | (go_at_call 12; refine (same_any _ _ _ _ _ (cst ns) (cst ds) _ ?_ ?_ ?_).mono ?_; omega; exact rbq; exact rdq; rintro e u ⟨rfl, q, rfl⟩)
                | (go_at_call 12; refine (same_any _ _ _ _ _ (cst L) (cst M) _ ?_ ?_ ?_).mono ?_; omega; exact rlq.drewN _; exact rmq.drewN _; rintro e u ⟨rfl, q2, rfl⟩))
              go_ret
              exact ⟨rfl, below_drewN bwq _⟩
            · have e1 : decide (cst ns = cst ds) = false := decide_eq_false (fun h => heq (cst_inj h))
              have h4 := HFAR.out heq
              obtain ⟨D, hD⟩ : ∃ D, D = distL L M := ⟨_, rfl⟩
              have hap := fun q => apart_any (some ⟨g, 0, none⟩) (some ⟨g', 0, none⟩) (2 * k + 2) c c' L M (wr.drewN q) (by omega) HL256.out HM256.out (rlq.drewN q) (rmq.drewN q)
              rw [← hD] at h4 hle8 hap
              have hd4 : (4 : Int) ≤ (D : Int) := by omega
              have HAP : Hid _ := hap
              clear hap hD
              go_wp2_with (first
                | (go_at_call 12; refine (same_any _ _ _ _ _ (cst ns) (cst ds) _ ?_ ?_ ?_).mono ?_; omega; exact rbq; exact rdq; rintro e u ⟨rfl, q, rfl⟩)
                | (go_at_call 11; refine (HAP.out _).mono ?_; rintro e u ⟨rfl, q2, rfl⟩))
              go_ret
              exact ⟨rfl, below_drewN bwq _⟩
      · have hgt : 4095 < k := by omega
        go_wp2_with (first
          | (go_at_call 9; refine (lay_bad _ _ _ _ hgt (by omega)).mono ?_; rintro e u3 ⟨rfl, rfl⟩)
          | (go_at_call 10; refine (no_any _ _).mono ?_; rintro e u ⟨rfl, rfl⟩))
        go_ret
        exact ⟨rfl, hbel⟩

set_option maxRecDepth 100000 in
theorem lifted (os : Os) (started : os.Started) (H : Type) (enc : TypeId × Value → H) :
    ReturnsInHanded {} Try.checked os 3 .any (Rows.railFarSpec.pre6 enc Try.prog Try.f3 Rows.railFarRow.domain false) (Rows.railFarSpec.post enc Try.prog Try.f3 false true false false) := by
  refine returnsInHanded_of_change_sized (C := Try.checked) own started (by kernel_rfl) Try.func3
    (ChangeSpec.witness6 (enc := enc) (C := Try.checked) false ⟨#[], #[.slice none 0 0, .slice none 0 0], []⟩ 8 (by kernel_rfl) (by kernel_rfl) (by kernel_rfl) (by kernel_rfl)) ?_
  intro W base args ds gs before hval0 hW hcnd hsz0 _
  have hval : ∀ (j : Nat) t v, Try.f3.params[j]? = some t → args[j]? = some v → Value.okWide Try.prog W .any base t v := hval0
  have hsz : (DataW.weightsEach Try.prog (Try.f3.params.toList ++ Rows.railFarSpec.plain.varTypes Try.prog) (ds ++ gs)).all (· ≤ reachBytes) = true := hsz0
  clear hsz0
  have hW' := hW
  obtain ⟨p, q, hA0, hV, rfl, hfz, hnd⟩ := hW
  have hA : DataW.TrodAll enc Try.prog W 0 (fun _ => true) true Try.f3.params.toList args.toList ds p := hA0
  rw [Try.params3] at hA hval hsz
  obtain ⟨v0, vs0, d0, ds0, p0, q0, hargs, rfl, rfl, h0, r0⟩ := trodAll_cons hA
  obtain ⟨v1, vs1, d1, ds1, p1, q1, rfl, rfl, rfl, h1, r1⟩ := trodAll_cons r0
  obtain ⟨rfl, rfl, rfl⟩ := trodAll_nil r1
  obtain rfl : args = #[v0, v1] := by cases args; simp_all
  obtain ⟨rfl, rfl⟩ := trodVars_none hV
  obtain ⟨a0, len0, cap0, rfl⟩ := okWide_slice Try.underlying22 (hval 0 22 v0 rfl rfl)
  have k0 := h0
  have lt0 : ∀ x ∈ p0, x.block < W.heap.size := by obtain ⟨m, hm⟩ := k0; exact DataW.trod_lt m _ _ _ hm
  obtain ⟨z0, w0, s0⟩ : ∃ zs, Reads W a0 len0 zs ∧ len0 ≤ 140737488351232 := by
    obtain ⟨fuel, hf⟩ := h0
    rcases open_ints Try.underlying22 Try.underlying5 (by kernel_rfl) hf with ⟨hcs, _⟩ | ⟨x, l, c, zs, hcs, _, hl, hm, hz, hx, hcell, hwz⟩
    · simp [Value.cells] at hcs
      obtain ⟨rfl, rfl, rfl⟩ := hcs
      exact ⟨[], ⟨rfl, by simp, fun _ => rfl, fun _ h => by cases h⟩, by omega⟩
    · simp [Value.cells] at hcs
      obtain ⟨rfl, rfl, rfl⟩ := hcs
      have hz' : zs.length = cap0 := by simpa using hz
      have hd := (Prod.mk.inj hx).1
      have hw := sized_slice hsz (j := 0) (t := 22) (e := 5) rfl (congrArg some hd) Try.underlying22
      rw [bytes5] at hw
      simp only [lits, List.length_map, List.length_take, List.length_drop, reachBytes] at hw
      refine ⟨zs.take len0, ⟨by simp; omega, fun n hn => bounds_u8 (hwz n (List.mem_of_mem_take hn)), (fun h => by cases h), fun y hy i hi => ?_⟩, by omega⟩
      cases hy
      rw [hcell i (by omega)]
      simp [List.getD, hi]
  obtain ⟨a1, len1, cap1, rfl⟩ := okWide_slice Try.underlying22 (hval 1 22 v1 rfl rfl)
  have k1 := h1
  have lt1 : ∀ x ∈ p1, x.block < W.heap.size := by obtain ⟨m, hm⟩ := k1; exact DataW.trod_lt m _ _ _ hm
  obtain ⟨z1, w1, s1⟩ : ∃ zs, Reads W a1 len1 zs ∧ len1 ≤ 140737488351232 := by
    obtain ⟨fuel, hf⟩ := h1
    rcases open_ints Try.underlying22 Try.underlying5 (by kernel_rfl) hf with ⟨hcs, _⟩ | ⟨x, l, c, zs, hcs, _, hl, hm, hz, hx, hcell, hwz⟩
    · simp [Value.cells] at hcs
      obtain ⟨rfl, rfl, rfl⟩ := hcs
      exact ⟨[], ⟨rfl, by simp, fun _ => rfl, fun _ h => by cases h⟩, by omega⟩
    · simp [Value.cells] at hcs
      obtain ⟨rfl, rfl, rfl⟩ := hcs
      have hz' : zs.length = cap1 := by simpa using hz
      have hd := (Prod.mk.inj hx).1
      have hw := sized_slice hsz (j := 1) (t := 22) (e := 5) rfl (congrArg some hd) Try.underlying22
      rw [bytes5] at hw
      simp only [lits, List.length_map, List.length_take, List.length_drop, reachBytes] at hw
      refine ⟨zs.take len1, ⟨by simp; omega, fun n hn => bounds_u8 (hwz n (List.mem_of_mem_take hn)), (fun h => by cases h), fun y hy i hi => ?_⟩, by omega⟩
      cases hy
      rw [hcell i (by omega)]
      simp [List.getD, hi]
  clear hA0 hval0
  refine (walk a0 len0 cap0 z0 a1 len1 cap1 z1 W w0 s0 w1 s1).mono fun e W' ⟨he, bel⟩ => ?_
  subst he
  exact ⟨_, rfl, _, _, _, [], _, [], hW', trodAll_mk1 (shut_bool Try.underlying4 _), (trodAll_cons_mk (Below.trod laidOut (by kernel_rfl) (of_decide_eq_true (by kernel_rfl)) k0 bel lt0) (trodAll_cons_mk (Below.trod laidOut (by kernel_rfl) (of_decide_eq_true (by kernel_rfl)) k1 bel lt1) trodAll_mk0)), rfl, bel.frame _, fun h => by cases h⟩

theorem over : Rows.railFarRow.holds Try.pinned (OpenSpec.ofChange Rows.railFarSpec) :=
  OpenClaim.holds_of_wide 3 Try.f3 rfl rfl rfl rfl rfl rfl rfl ⟨rfl, rfl, rfl, rfl, rfl⟩ rfl rfl rfl rfl rfl (by kernel_rfl) Try.func3 (by kernel_rfl)
    (of_decide_eq_true (by kernel_rfl)) (by unfold Func.isWrapper; first | (rw [if_pos (by decide +kernel)]; kernel_rfl) | (rw [if_neg (by decide +kernel)]; exact ⟨rfl, rfl⟩))
    (fun os started H enc _ => lifted os started H enc)

end Go.Proofs.Ytkcpfcnpniblcad.railFar
namespace Go.Proofs.Ytkcpfcnpniblcad
theorem railFar_holds : Rows.RailFarSaid := railFar.over
#print axioms railFar_holds
end Go.Proofs.Ytkcpfcnpniblcad

