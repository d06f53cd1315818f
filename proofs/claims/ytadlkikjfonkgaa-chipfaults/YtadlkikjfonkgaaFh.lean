/-
  SEAT Ytadlkikjfonkgaa: ChipFaults: the walk.
-/
import Derived.Test.YtadlkikjfonkgaaFf
import Derived.Test.YtadlkikjfonkgaaHd
import Derived.Test.YtadlkikjfonkgaaLs
namespace Go.Proofs.Ytadlkikjfonkgaa
open Go.RowKit Go.Conc
set_option linter.unusedVariables false

theorem readsB_img' {w : World} {g B : Nat} {C : Ch} (h : w.heap[g]? = some (.cells (C.bl.map (fun b => Value.bool b.m)).toArray 4 (0, 0))) (hl : (C.bl.map (fun b => b.m)).length = B) : ReadsB w (some ⟨g, 0, none⟩) B (C.bl.map (fun b => b.m)) :=
  ⟨hl, (fun h => by cases h), fun x hx i hi => by
    cases hx
    rw [plain_add]
    have hb : i < C.bl.length := by simp at hl; omega
    simp only [World.cell?, h, List.getElem?_toArray, List.getElem?_map, Nat.zero_add]
    rw [List.getElem?_eq_getElem hb, List.getD_eq_getElem?_getD, List.getElem?_map, List.getElem?_eq_getElem hb]
    rfl⟩
theorem img_range {w : World} {p : Nat} {F : Nat → Prop} {C : Ch} (h : ChipAt w p F C) : ∀ z ∈ imgL C, 0 ≤ z ∧ z ≤ 255 := by
  obtain ⟨x, bs, fe, hc⟩ := h
  intro z hz
  unfold imgL imgB at hz
  obtain ⟨i, _, hz⟩ := List.mem_flatMap.1 hz
  obtain ⟨k, _, hz⟩ := List.mem_flatMap.1 hz
  unfold readL at hz
  rw [← hc.bl, List.getElem?_map] at hz
  cases hb : bs[i]? with
  | none => rw [hb] at hz; cases hz
  | some b =>
    rw [hb] at hz
    simp only [Option.map_some, Bc.v, List.getElem?_map] at hz
    cases hq : b.ps[k]? with
    | none => rw [hq] at hz; cases hz
    | some q =>
      rw [hq] at hz
      exact flipsL_range _ _ ((hc.bok b (List.mem_of_getElem? hb)).pg q (List.mem_of_getElem? hq)).byt z hz
theorem own_al {u : World} {B e size n : Nat} {v : Value} {xs : List Value} {o : Obj} (h : u.ownsRow B e size v n xs) : (u.alloc o).ownsRow B e size v n xs := owns_keep h (fun g hg => by obtain ⟨cs, hcs⟩ := own_tag h hg; exact alloc_old _ _ (lt_of_block hcs))
set_option maxHeartbeats 8000000 in
set_option maxRecDepth 100000 in
theorem faults_no (w : World) (ba : Option Addr) (bn bc : Nat) (bad : List Int) (hR : ReadsI w ba bn bad) (hbn : bn ≤ 9223372036854775807) (sa : Option Addr) (n c : Nat) (fs : List Fc) (hF : ReadsF w sa n fs) (hn : n ≤ 9223372036854775807) (oa : Option Addr) (on oc : Nat) (xs : List Ox) (hO : ReadsO w oa on xs) (hon : on ≤ 1600000000000) (hne : NewE 8 4 1 bad fs ≠ 0) :
    Calls Try.prog 4 #[.slice ba bn bc, .slice sa n c, .slice oa on oc] w fun e w' => e = .returned (.bool true) ∧ Below w.heap.size w w' := by
  have HR := hide hR
  have HF := hide hF
  obtain ⟨ne, hnee⟩ : ∃ z, z = NewE 8 4 1 bad fs := ⟨_, rfl⟩
  have dne : (ne != 0) = true := by rw [hnee]; simpa using hne
  have HNE := hide hnee
  have HN0 := hide hne
  clear hR hF hO hnee hne
  go_enter Try.func4, Try.ntmps4
  go_wp2_with (first
    | (go_at_call 20; refine (lshape_any _).mono ?_; rintro e u1 ⟨rfl, b1⟩; have HB1 := hide (below_trans b1 (below_alloc u1 (.cells #[.int .i64 8, .int .i64 4, .int .i64 1] 23))); clear b1)
    | (go_at_call 21; refine (New_any _ 8 4 1 ba bn bc bad (HR.out.below HB1.out) hbn sa n c fs (HF.out.below HB1.out) hn).mono ?_; rintro e u2 hnew; have hv1 := hnew.no HN0.out; rw [← HNE.out] at hv1; subst hv1; have HB2 := hide (below_trans HB1.out hnew.bel); clear hnew)
    | (go_at_call 11; refine (no_any' ne _).mono ?_; rintro e v0 ⟨rfl, hv0⟩; subst hv0)
    | (go_at_call 12; refine (heads_any _).mono ?_; rintro e u3 ⟨rfl, b3⟩; have HB3 := hide (below_trans HB2.out b3); clear b3))
  go_ret
  exact ⟨rfl, HB3.out⟩
set_option maxHeartbeats 8000000 in
set_option maxRecDepth 100000 in
theorem faults_yes (w : World) (ba : Option Addr) (bn bc : Nat) (bad : List Int) (hR : ReadsI w ba bn bad) (hbn : bn ≤ 9223372036854775807) (sa : Option Addr) (n c : Nat) (fs : List Fc) (hF : ReadsF w sa n fs) (hn : n ≤ 9223372036854775807) (oa : Option Addr) (on oc : Nat) (xs : List Ox) (hO : ReadsO w oa on xs) (hon : on ≤ 1600000000000) (hne : NewE 8 4 1 bad fs = 0) :
    Calls Try.prog 4 #[.slice ba bn bc, .slice sa n c, .slice oa on oc] w fun e w' => e = .returned (.bool true) ∧ Below w.heap.size w w' := by
  obtain ⟨C0, hC0⟩ : ∃ C, C = newC 8 4 1 bad (fs.map Fc.t) := ⟨_, rfl⟩
  have HL0 : Hid (Life C0 0) := by rw [hC0]; exact newC_life 8 4 1 bad _ (by decide)
  obtain ⟨ops, hops⟩ : ∃ l, l = xs.map Ox.o := ⟨_, rfl⟩
  have hol : ops.length = on := by rw [hops, List.length_map]; exact hO.1
  obtain ⟨ts, hts⟩ : ∃ l, l = toldC C0 ops := ⟨_, rfl⟩
  obtain ⟨C1, hC1⟩ : ∃ C, C = playC C0 ops := ⟨_, rfl⟩
  obtain ⟨nc, hnc⟩ : ∃ k, k = C1.cnt := ⟨_, rfl⟩
  have hcnt : C1.cnt = nc := hnc.symm
  have hfb : faultsB fs = true := by
    unfold NewE at hne
    split at hne
    · cases hne
    split at hne
    · cases hne
    split at hne
    · cases hne
    · rename_i h1 h2 h3; simpa using h3
  have hbo : bad.any (outB 8) = false := by
    unfold NewE at hne
    split at hne
    · cases hne
    split at hne
    · cases hne
    · rename_i h1 h2; simpa using h2
  have HSM : Hid (toldC (newC 8 4 1 bad ((cutF nc fs).map Fc.t)) ops = ts ∧ ∃ q, playC (newC 8 4 1 bad ((cutF nc fs).map Fc.t)) ops = setQ C1 q) := by
    have h9 := faults_same bad fs hfb ops nc (by rw [← hC0, ← hC1]; exact hcnt)
    rw [← hC0, ← hts, ← hC1] at h9
    exact h9
  have HNE2 : Hid (NewE 8 4 1 bad (cutF nc fs) = 0) := by
    unfold Hid NewE
    rw [if_neg (by decide), if_neg (by rw [hbo]; decide), if_neg (by rw [(faults_cut hfb nc).1]; decide)]
  have hfl : fs.length = n := hF.1
  have hn4 : n ≤ 4096 := by
    have h9 := hfb
    unfold faultsB at h9
    rw [Bool.and_eq_true] at h9
    have := of_decide_eq_true h9.1
    omega
  have HR := hide hR
  have HF := hide hF
  have HO := hide hO
  have HNE := hide hne
  have HC0 := hide hC0
  have HOP := hide hops
  have HTS := hide hts
  have HC1 := hide hC1
  clear hR hF hO hne hC0 hops hts hC1 hnc hfb hbo
  obtain ⟨i0, hi0, hz0, hz1, hz2⟩ := info_parts info30
  obtain ⟨j0, kj0, kz0, kz1, kz2⟩ := info_parts info58
  go_enter Try.func4, Try.ntmps4
  go_upto_region 6 with (first
    | (go_at_call 20; refine (lshape_any _).mono ?_; rintro e u1 ⟨rfl, b1⟩; have HB1 := hide (below_trans b1 (below_alloc u1 (.cells #[.int .i64 8, .int .i64 4, .int .i64 1] 23))); have HU1 := hide b1.size; have HG1 := hide (alloc_new u1 (.cells #[.int .i64 8, .int .i64 4, .int .i64 1] 23)); clear b1)
    | (go_at_call 21; refine (New_any _ 8 4 1 ba bn bc bad (HR.out.below HB1.out) hbn sa n c fs (HF.out.below HB1.out) hn).mono ?_; rintro e u2 hnew; obtain ⟨p, hE, hch⟩ := hnew.yes HNE.out; subst hE; have HCH : Hid (ChipAt u2 p (fun k => u1.heap.size + 1 ≤ k ∧ k < u2.heap.size) C0) := (by rw [HC0.out]; have h9 := hch; rw [alloc_size] at h9; exact h9); have HN2 := hide hnew.bel; clear hnew hch)
    | (go_at_call 11; refine (no_any' 0 _).mono ?_; rintro e v0 ⟨rfl, hv0⟩; subst hv0))
  obtain ⟨b7, hb7⟩ : ∃ b, b = u1.heap.size := ⟨_, rfl⟩
  have HA0 : Hid (∃ F, FA w v0 p b7 F (playC C0 (ops.take 0)) (.slice none 0 0) 0 (ts.take 0)) := by
    have h1 := HU1.out
    refine ⟨_, ⟨⟨below_trans HB1.out HN2.out, HCH.out, fun k hk => by omega, fun x hx => ?_⟩, World.ownsRow_nil _ _ _ _, fun g hg => by cases hg⟩⟩
    simp at hx
    subst hx
    rw [hb7]
    exact ⟨(HN2.out.block _ (lt_of_block HG1.out)).trans HG1.out, (fun hf => by have := hf.1; omega), h1⟩
  rw [← hb7]
  clear hb7 HCH HN2 HG1 HU1 HB1
  go_wp2
  go_loopw [10, 11] (fun s10 s11 wr => ∃ (i : Nat) (F : Nat → Prop) (tv : Value), i ≤ on ∧ s11 = .int .i64 i ∧ s10 = tv ∧ Hid (FA w wr p b7 F (playC C0 (ops.take i)) tv i (ts.take i))) (fun s10 s11 _ => on - (intOf s11).toNat)
  case atStart => exact ⟨0, HA0.out.choose, _, Nat.zero_le _, rfl, rfl, HA0.out.choose_spec⟩
  case round =>
    clear HA0
    obtain ⟨i, F, tv, hi, rfl, htv, HI⟩ := hrel
    have htv := htv.symm
    subst htv
    by_cases hlt : i < on
    · have dm : decide ((i : Int) < (on : Int)) = true := decide_eq_true (by omega)
      have i1 : (i : Int) < (on : Int) := by omega
      obtain ⟨gO, oO, x, hoa, hgO, hxi, hxo, k0, k1, k2, k3, k4, k5, k6⟩ := HO.out.pos hlt
      subst hoa
      have hbw := HI.out.hd.bel
      have k0 := (hbw.cell (block_lt_of_cell k0)).trans k0
      have k1 := (hbw.cell (block_lt_of_cell k1)).trans k1
      have k2 := (hbw.cell (block_lt_of_cell k2)).trans k2
      have k3 := (hbw.cell (block_lt_of_cell k3)).trans k3
      have k4 := (hbw.cell (block_lt_of_cell k4)).trans k4
      have k5 := (hbw.cell (block_lt_of_cell k5)).trans k5
      have k6 := (hbw.cell (block_lt_of_cell k6)).trans k6
      have HXI : Hid (ops[i]? = some x.o) := by unfold Hid; rw [HOP.out, List.getElem?_map, hxi]; rfl
      have HLi := hide (HL0.out.play (ops.take i))
      have hli : 0 + (ops.take i).length ≤ 1600000000000 := by simp; omega
      have HXO := hide (hxo.below hbw)
      have HDW : Hid ((∀ y, x.da = some y → 0 < x.dn → ¬ F y.block) ∧ (∀ y, x.za = some y → 0 < x.zn → ¬ F y.block)) := ⟨fun y hy h0 hf => by have h1 := reads_low hxo.d hy h0; have h2 := HI.out.hd.lo _ hf; omega, fun y hy h0 hf => by have h1 := reads_low hxo.z hy h0; have h2 := HI.out.hd.lo _ hf; omega⟩
      obtain ⟨r, hr⟩ : ∃ r, r = (doesC (playC C0 (ops.take i)) x.o).1 := ⟨_, rfl⟩
      have HRE := hide hr
      clear hxi hxo hbw hr
      go_wp2_with (first
        | (go_at_call 22; refine (does_any _ p F _ HI.out.hd.ch HLi.out.ok (by have := HLi.out.tr; omega) (HLi.out.fl.mono (by omega)) x.o x.da x.dn x.dc x.za x.zn x.zc HXO.out.d HXO.out.z (by have := HXO.out.dl; omega) (by have := HXO.out.zl; omega) HDW.out.1 HDW.out.2 HXO.out.bit).mono ?_; rintro e u4 ⟨rfl, hc4, ho4⟩; rw [← HRE.out]; have HA4 := hide (HI.out.does hc4 ho4); clear hc4 ho4 k0 k1 k2 k3 k4 k5 k6)
        | (at_builtin; refine wpList_append_lies _ rfl _ _ 53 rfl w.heap.size 30 i0 (.int .i64 0) 1 8 Try.underlying53 hi0 hz0 hz1 hz2 rfl (by decide) _ i _ rfl (own_al HA4.out.told) ⟨u4.heap.size, 0, none⟩ 1 1 [.int .i64 r] rfl rfl (news_int _ _) (by simp [Value.oneCell']) (by omega) (by simp [maxLen]; omega) (by omega) (by have := HA4.out.hd.bel.size; simp; omega) (u4.heap.size + 1) (by simp) ?_; intro g1 c1 w1 ow1 gr1 li1 _; have HA5 := hide (HA4.out.app ow1 gr1 li1); clear ow1 gr1 li1))
      have HT : Hid (ts.take (i + 1) = ts.take i ++ [r]) := by unfold Hid; rw [HTS.out, toldC_take HXI.out, ← HTS.out, HRE.out]
      have HP : Hid (playC C0 (ops.take (i + 1)) = (doesC (playC C0 (ops.take i)) x.o).2) := playC_take HXI.out
      rw [← HT.out, ← HP.out] at HA5
      go_roundw
      case rel => exact ⟨i + 1, _, _, by omega, by go_num, rfl, HA5⟩
      case measure => simp [intOf]; omega
    · have dm : decide ((i : Int) < (on : Int)) = false := decide_eq_false (by omega)
      have ei : i = on := by omega
      subst ei
      have HI1 : Hid (FA w wr p b7 F C1 tv i ts) := by
        have h9 := HI.out
        rw [List.take_of_length_le (by omega), List.take_of_length_le (by rw [HTS.out, toldC_len]; omega), ← HC1.out] at h9
        exact h9
      clear HI
      obtain ⟨wo, hwo⟩ : ∃ wo, wo = wr := ⟨_, rfl⟩
      subst hwo
      go_wp2
      go_loopw [12, 13] (fun s12 s13 wr => ∃ (k : Nat) (v2 : Value), k ≤ n ∧ s13 = .int .i64 k ∧ s12 = v2 ∧ Hid (FS w wr p b7 F C1 tv i ts v2 (cutF nc (fs.take k)))) (fun s12 s13 _ => n - (intOf s13).toNat)
      case atStart => exact ⟨0, _, Nat.zero_le _, rfl, rfl, ⟨HI1.out, World.ownsRow_nil _ _ _ _, fun g hg => by cases hg⟩⟩
      case round =>
        clear HI1
        obtain ⟨k, v2, hk, rfl, htv, HI⟩ := hrel
        have htv := htv.symm
        subst htv
        by_cases hkt : k < n
        · have dk : decide ((k : Int) < (n : Int)) = true := decide_eq_true (by omega)
          have kk1 : (k : Int) < (n : Int) := by omega
          obtain ⟨gF, oF, x, hsa, hgF, hxi, q0, q1, q2, q3⟩ := HF.out.get hkt
          subst hsa
          have hbw := HI.out.fa.hd.bel
          have q0 := (hbw.cell (block_lt_of_cell q0)).trans q0
          have q1 := (hbw.cell (block_lt_of_cell q1)).trans q1
          have q2 := (hbw.cell (block_lt_of_cell q2)).trans q2
          have q3 := (hbw.cell (block_lt_of_cell q3)).trans q3
          have HXI := hide hxi
          have hml : (cutF nc (fs.take k)).length ≤ 4096 := Nat.le_trans (List.length_filter_le _ _) (by simp; omega)
          clear hbw hxi
          by_cases hx : x.a < (nc : Int)
          · have dx : decide (x.a < (nc : Int)) = true := decide_eq_true hx
            have HCF : Hid (cutF nc (fs.take (k + 1)) = cutF nc (fs.take k) ++ [x]) := by
              unfold Hid cutF
              rw [List.take_add_one, HXI.out, List.filter_append]
              simp [hx]
            go_upto_region 14 with fail
            refine wp_region_held_drew (S := (fun u => u.cell? ⟨gF, oF + k * 4, none⟩ = some (.int .i64 x.a))) (by kernel_rfl) (q0) (fun hHeld => ?_)
            refine wpAnyH_take (i := 0) (oi := { dst := some 53, op := Op.move (Operand.tmp 1), type := 49, pos := "outright.go:214", after := #[], guard := none }) (v := ?v0a) rfl (by kernel_rfl) (by kernel_rfl) (by kernel_rfl) (fun _ _ _ h => h) (Or.inl ⟨by rfl, ?y0a⟩) (by assumption) ?r0a
            case y0a => (intro x hx; (try dsimp only at hx); go_simp; try with_reducible rfl)
            try simp only [Act.put, List.setIfInBounds_toArray, List.set_cons_zero, List.set_cons_succ]
            refine wpAnyH_take (i := 1) (oi := { dst := some 54, op := Op.move (Operand.tmp 13), type := 3, pos := "outright.go:214", after := #[], guard := none }) (v := ?v1a) rfl (by kernel_rfl) (by kernel_rfl) (by kernel_rfl) (fun _ _ _ h => h) (Or.inl ⟨by rfl, ?y1a⟩) (by assumption) ?r1a
            case y1a => (intro x hx; (try dsimp only at hx); go_simp; try with_reducible rfl)
            try simp only [Act.put, List.setIfInBounds_toArray, List.set_cons_zero, List.set_cons_succ]
            refine wpAnyH_take (i := 2) (oi := { dst := some 55, op := Op.indexAddr 49 (Operand.tmp 53) (Operand.tmp 54), type := 0, pos := "outright.go:214", after := #[{ on := 0, ground := Ground.data }, { on := 1, ground := Ground.data }], guard := none }) (v := ?v2a) rfl (by kernel_rfl) (by kernel_rfl) (by kernel_rfl) (fun _ _ _ h => h) (Or.inl ⟨by rfl, ?y2a⟩) (by assumption) ?r2a
            case y2a => (intro x hx; (try dsimp only at hx); go_simp; try with_reducible rfl)
            try simp only [Act.put, List.setIfInBounds_toArray, List.set_cons_zero, List.set_cons_succ]
            refine wpAnyH_take (i := 3) (oi := { dst := some 56, op := Op.fieldAddr 58 (Operand.tmp 55) 0, type := 0, pos := "outright.go:214", after := #[{ on := 2, ground := Ground.data }], guard := none }) (v := ?v3a) rfl (by kernel_rfl) (by kernel_rfl) (by kernel_rfl) (fun _ _ _ h => h) (Or.inl ⟨by rfl, ?y3a⟩) (by assumption) ?r3a
            case y3a => (intro x hx; (try dsimp only at hx); go_simp; try with_reducible rfl)
            try simp only [Act.put, List.setIfInBounds_toArray, List.set_cons_zero, List.set_cons_succ]
            refine wpAnyH_take (i := 4) (oi := { dst := some 57, op := Op.load 3 (Operand.tmp 56), type := 3, pos := "outright.go:214", after := #[{ on := 3, ground := Ground.data }], guard := none }) (v := ?v4a) rfl (by kernel_rfl) (by kernel_rfl) (by kernel_rfl) (fun _ _ _ h => h) (Or.inl ⟨by rfl, ?y4a⟩) (by assumption) ?r4a
            case y4a => (intro x hx; (try dsimp only at hx); go_simp; try with_reducible rfl)
            try simp only [Act.put, List.setIfInBounds_toArray, List.set_cons_zero, List.set_cons_succ]
            refine wpAnyH_take (i := 5) (oi := { dst := some 58, op := Op.move (Operand.tmp 8), type := 29, pos := "outright.go:214", after := #[], guard := none }) (v := ?v5a) rfl (by kernel_rfl) (by kernel_rfl) (by kernel_rfl) (fun _ _ _ h => h) (Or.inl ⟨by rfl, ?y5a⟩) (by assumption) ?r5a
            case y5a => (intro x hx; (try dsimp only at hx); go_simp; try with_reducible rfl)
            try simp only [Act.put, List.setIfInBounds_toArray, List.set_cons_zero, List.set_cons_succ]
            refine wpAnyH_ready (rs := [6]) (by kernel_rfl) (by simp) ?_
            refine AllReadyH.cons (o := { dst := some 59, op := Op.call { callee := Callee.value (Operand.func 18), args := #[Operand.tmp 58], argTypes := #[29] }, type := 3, pos := "outright.go:214", after := #[{ on := 5, ground := Ground.data }], guard := none }) rfl (fun K hK => ?_) AllReadyH.nil
            go_simp
            go_at_call 18
            refine (Count_any _ p F C1 (HI.out.fa.hd.ch.below (drew_below _))).mono ?_
            rintro e v0 ⟨rfl, hv0⟩
            subst hv0
            have hSnew := hHeld
            rw [hcnt]
            go_wp2_with fail
            refine hK.out _ _ hSnew (fun hHeld6 => ?_)
            clear hK K hSnew
            clear hHeld
            have hHeld := hHeld6
            clear hHeld6
            try simp only [Act.put, List.setIfInBounds_toArray, List.set_cons_zero, List.set_cons_succ]
            refine wpAnyH_take (i := 7) (oi := { dst := some 60, op := Op.binOp BinOp.lss 3 (Operand.tmp 57) (Operand.tmp 59) 3, type := 4, pos := "outright.go:214", after := #[{ on := 4, ground := Ground.data }, { on := 6, ground := Ground.data }], guard := none }) (v := ?v7a) rfl (by kernel_rfl) (by kernel_rfl) (by kernel_rfl) (fun _ _ _ h => h) (Or.inl ⟨by rfl, ?y7a⟩) (by assumption) ?r7a
            case y7a => (intro x hx; (try dsimp only at hx); go_simp; try with_reducible rfl)
            try simp only [Act.put, List.setIfInBounds_toArray, List.set_cons_zero, List.set_cons_succ]
            refine wpAnyH_done (by kernel_rfl) ?_ _
            clear hHeld
            go_wp2_with (
              (at_builtin; refine wpList_append_lies _ rfl _ _ 49 rfl w.heap.size 58 j0 (.agg #[.int .i64 0, .int .i64 0, .slice none 0 0, .int .u8 0]) 4 48 Try.underlying49 kj0 kz0 kz1 kz2 rfl (by decide) _ (cutF nc (fs.take k)).length _ rfl (own_al (HI.out.drew).own) ⟨wr.heap.size, 0, none⟩ 1 1 x.row rfl rfl (news_fault _ _) (by intro u hu; simp [Fc.row] at hu; rcases hu with rfl | rfl | rfl | rfl <;> rfl) (by omega) (by simp [maxLen]; omega) (by omega) (by have := HI.out.fa.hd.bel.size; simp; omega) (wr.heap.size + 1) (by simp) ?_; intro g1 c1 w1 ow1 gr1 li1 _; have HA5 := hide (HI.out.drew.app ow1 gr1 li1); clear ow1 gr1 li1))
            rw [← HCF.out] at HA5
            go_roundw
            case rel => exact ⟨k + 1, _, by omega, by go_num, rfl, HA5⟩
            case measure => simp [intOf]; omega
          · have dx : decide (x.a < (nc : Int)) = false := decide_eq_false hx
            have HCF : Hid (cutF nc (fs.take (k + 1)) = cutF nc (fs.take k)) := by
              unfold Hid cutF
              rw [List.take_add_one, HXI.out, List.filter_append]
              simp [hx]
            go_upto_region 14 with fail
            refine wp_region_held_drew (S := (fun u => u.cell? ⟨gF, oF + k * 4, none⟩ = some (.int .i64 x.a))) (by kernel_rfl) (q0) (fun hHeld => ?_)
            refine wpAnyH_take (i := 0) (oi := { dst := some 53, op := Op.move (Operand.tmp 1), type := 49, pos := "outright.go:214", after := #[], guard := none }) (v := ?v0b) rfl (by kernel_rfl) (by kernel_rfl) (by kernel_rfl) (fun _ _ _ h => h) (Or.inl ⟨by rfl, ?y0b⟩) (by assumption) ?r0b
            case y0b => (intro x hx; (try dsimp only at hx); go_simp; try with_reducible rfl)
            try simp only [Act.put, List.setIfInBounds_toArray, List.set_cons_zero, List.set_cons_succ]
            refine wpAnyH_take (i := 1) (oi := { dst := some 54, op := Op.move (Operand.tmp 13), type := 3, pos := "outright.go:214", after := #[], guard := none }) (v := ?v1b) rfl (by kernel_rfl) (by kernel_rfl) (by kernel_rfl) (fun _ _ _ h => h) (Or.inl ⟨by rfl, ?y1b⟩) (by assumption) ?r1b
            case y1b => (intro x hx; (try dsimp only at hx); go_simp; try with_reducible rfl)
            try simp only [Act.put, List.setIfInBounds_toArray, List.set_cons_zero, List.set_cons_succ]
            refine wpAnyH_take (i := 2) (oi := { dst := some 55, op := Op.indexAddr 49 (Operand.tmp 53) (Operand.tmp 54), type := 0, pos := "outright.go:214", after := #[{ on := 0, ground := Ground.data }, { on := 1, ground := Ground.data }], guard := none }) (v := ?v2b) rfl (by kernel_rfl) (by kernel_rfl) (by kernel_rfl) (fun _ _ _ h => h) (Or.inl ⟨by rfl, ?y2b⟩) (by assumption) ?r2b
            case y2b => (intro x hx; (try dsimp only at hx); go_simp; try with_reducible rfl)
            try simp only [Act.put, List.setIfInBounds_toArray, List.set_cons_zero, List.set_cons_succ]
            refine wpAnyH_take (i := 3) (oi := { dst := some 56, op := Op.fieldAddr 58 (Operand.tmp 55) 0, type := 0, pos := "outright.go:214", after := #[{ on := 2, ground := Ground.data }], guard := none }) (v := ?v3b) rfl (by kernel_rfl) (by kernel_rfl) (by kernel_rfl) (fun _ _ _ h => h) (Or.inl ⟨by rfl, ?y3b⟩) (by assumption) ?r3b
            case y3b => (intro x hx; (try dsimp only at hx); go_simp; try with_reducible rfl)
            try simp only [Act.put, List.setIfInBounds_toArray, List.set_cons_zero, List.set_cons_succ]
            refine wpAnyH_take (i := 4) (oi := { dst := some 57, op := Op.load 3 (Operand.tmp 56), type := 3, pos := "outright.go:214", after := #[{ on := 3, ground := Ground.data }], guard := none }) (v := ?v4b) rfl (by kernel_rfl) (by kernel_rfl) (by kernel_rfl) (fun _ _ _ h => h) (Or.inl ⟨by rfl, ?y4b⟩) (by assumption) ?r4b
            case y4b => (intro x hx; (try dsimp only at hx); go_simp; try with_reducible rfl)
            try simp only [Act.put, List.setIfInBounds_toArray, List.set_cons_zero, List.set_cons_succ]
            refine wpAnyH_take (i := 5) (oi := { dst := some 58, op := Op.move (Operand.tmp 8), type := 29, pos := "outright.go:214", after := #[], guard := none }) (v := ?v5b) rfl (by kernel_rfl) (by kernel_rfl) (by kernel_rfl) (fun _ _ _ h => h) (Or.inl ⟨by rfl, ?y5b⟩) (by assumption) ?r5b
            case y5b => (intro x hx; (try dsimp only at hx); go_simp; try with_reducible rfl)
            try simp only [Act.put, List.setIfInBounds_toArray, List.set_cons_zero, List.set_cons_succ]
            refine wpAnyH_ready (rs := [6]) (by kernel_rfl) (by simp) ?_
            refine AllReadyH.cons (o := { dst := some 59, op := Op.call { callee := Callee.value (Operand.func 18), args := #[Operand.tmp 58], argTypes := #[29] }, type := 3, pos := "outright.go:214", after := #[{ on := 5, ground := Ground.data }], guard := none }) rfl (fun K hK => ?_) AllReadyH.nil
            go_simp
            go_at_call 18
            refine (Count_any _ p F C1 (HI.out.fa.hd.ch.below (drew_below _))).mono ?_
            rintro e v0 ⟨rfl, hv0⟩
            subst hv0
            have hSnew := hHeld
            rw [hcnt]
            go_wp2_with fail
            refine hK.out _ _ hSnew (fun hHeld6 => ?_)
            clear hK K hSnew
            clear hHeld
            have hHeld := hHeld6
            clear hHeld6
            try simp only [Act.put, List.setIfInBounds_toArray, List.set_cons_zero, List.set_cons_succ]
            refine wpAnyH_take (i := 7) (oi := { dst := some 60, op := Op.binOp BinOp.lss 3 (Operand.tmp 57) (Operand.tmp 59) 3, type := 4, pos := "outright.go:214", after := #[{ on := 4, ground := Ground.data }, { on := 6, ground := Ground.data }], guard := none }) (v := ?v7b) rfl (by kernel_rfl) (by kernel_rfl) (by kernel_rfl) (fun _ _ _ h => h) (Or.inl ⟨by rfl, ?y7b⟩) (by assumption) ?r7b
            case y7b => (intro x hx; (try dsimp only at hx); go_simp; try with_reducible rfl)
            try simp only [Act.put, List.setIfInBounds_toArray, List.set_cons_zero, List.set_cons_succ]
            refine wpAnyH_done (by kernel_rfl) ?_ _
            clear hHeld
            go_wp2
            have HA5 := hide HI.out.drew
            rw [← HCF.out] at HA5
            go_roundw
            case rel => exact ⟨k + 1, _, by omega, by go_num, rfl, HA5⟩
            case measure => simp [intOf]; omega
        · have dk : decide ((k : Int) < (n : Int)) = false := decide_eq_false (by omega)
          have ek : k = n := by omega
          have HI2 : Hid (FS w wr p b7 F C1 tv i ts v2 (cutF nc fs)) := by
            have h9 := HI.out
            rw [List.take_of_length_le (by omega)] at h9
            exact h9
          obtain ⟨a2, l2, c2, hv2⟩ := own_slice HI2.out.own
          subst hv2
          have hl2 := own_n HI2.out.own
          have hl2b : l2 ≤ 4096 := by rw [hl2]; exact Nat.le_trans (List.length_filter_le _ _) (by omega)
          have HRF2 : Hid (ReadsF wr a2 l2 (cutF nc fs)) := by
            have h9 := HI2.out.own
            rw [← hl2] at h9
            exact readsF_own h9 (fun x hx => (HF.out.2.1 x (List.mem_filter.1 hx).1).below HI2.out.fa.hd.bel)
          have HL2 := hide hl2
          clear HI hl2
          obtain ⟨g0, g1, g2⟩ := cells3 (HI2.out.fa.hd.blk (List.mem_cons_self))
          obtain ⟨D0, hD0⟩ : ∃ D, D = newC 8 4 1 bad ((cutF nc fs).map Fc.t) := ⟨_, rfl⟩
          have HLD : Hid (Life D0 0) := by rw [hD0]; exact newC_life 8 4 1 bad _ (by decide)
          have HSM2 := HSM
          rw [← hD0] at HSM2
          have HD0 := hide hD0
          clear hD0
          go_upto_region 19 with (first
            | (go_at_call 21; refine (New_any _ 8 4 1 ba bn bc bad (HR.out.below HI2.out.fa.hd.bel) hbn a2 l2 c2 (cutF nc fs) HRF2.out (by omega)).mono ?_; rintro e u5 hnew; obtain ⟨p2, hE, hch⟩ := hnew.yes HNE2.out; subst hE; have HFD : Hid (FD w u5 p p2 b7 F (fun k => wr.heap.size ≤ k ∧ k < u5.heap.size) C1 (playC D0 (ops.take 0)) tv i ts) := fd_start HI2.out.fa (by show ChipAt u5 p2 _ D0; rw [HD0.out]; exact hch) hnew.bel; clear hnew hch g0 g1 g2)
            | (go_at_call 11; refine (no_any' 0 _).mono ?_; rintro e v0 ⟨rfl, hv0⟩; subst hv0))
          generalize hF2 : (fun k => wr.heap.size ≤ k ∧ k < v0.heap.size) = F2 at HFD
          clear hF2 HI2 HRF2
          obtain ⟨wo2, hwo2⟩ : ∃ wo, wo = v0 := ⟨_, rfl⟩
          subst hwo2
          go_wp2
          go_loopw [15] (fun s15 wr => ∃ (m : Nat) (F2 : Nat → Prop), m ≤ i ∧ s15 = .int .i64 m ∧ Hid (FD w wr p p2 b7 F F2 C1 (playC D0 (ops.take m)) tv i ts)) (fun s15 _ => i - (intOf s15).toNat)
          case atStart => exact ⟨0, F2, Nat.zero_le _, rfl, HFD⟩
          case round =>
            clear HFD
            obtain ⟨m, F3, hm, rfl, HJ⟩ := hrel
            by_cases hmt : m < i
            · have dmm : decide ((m : Int) < (i : Int)) = true := decide_eq_true (by omega)
              have mm1 : (m : Int) < (i : Int) := by omega
              obtain ⟨gO, oO, x, hoa, hgO, hxi, hxo, k0, k1, k2, k3, k4, k5, k6⟩ := HO.out.pos hmt
              subst hoa
              have hbw := HJ.out.fa.hd.bel
              have k0 := (hbw.cell (block_lt_of_cell k0)).trans k0
              have k1 := (hbw.cell (block_lt_of_cell k1)).trans k1
              have k2 := (hbw.cell (block_lt_of_cell k2)).trans k2
              have k3 := (hbw.cell (block_lt_of_cell k3)).trans k3
              have k4 := (hbw.cell (block_lt_of_cell k4)).trans k4
              have k5 := (hbw.cell (block_lt_of_cell k5)).trans k5
              have k6 := (hbw.cell (block_lt_of_cell k6)).trans k6
              have HXI : Hid (ops[m]? = some x.o) := by unfold Hid; rw [HOP.out, List.getElem?_map, hxi]; rfl
              have HLi := hide (HLD.out.play (ops.take m))
              have hli : 0 + (ops.take m).length ≤ 1600000000000 := by simp; omega
              have HXO := hide (hxo.below (below_trans hbw (drew_below wr)))
              have HDW : Hid ((∀ y, x.da = some y → 0 < x.dn → ¬ F3 y.block) ∧ (∀ y, x.za = some y → 0 < x.zn → ¬ F3 y.block)) := ⟨fun y hy h0 hf => by have h1 := reads_low hxo.d hy h0; have h2 := HJ.out.fa.hd.lo _ hf; omega, fun y hy h0 hf => by have h1 := reads_low hxo.z hy h0; have h2 := HJ.out.fa.hd.lo _ hf; omega⟩
              obtain ⟨gT, cT, hT, _, hgT⟩ := HJ.out.fa.told.form (by omega)
              subst hT
              have hml : m < ts.length := by rw [HTS.out, toldC_len]; omega
              obtain ⟨tv, htv⟩ : ∃ z, ts[m]? = some z := ⟨_, List.getElem?_eq_getElem hml⟩
              have kT := told_cell HJ.out.fa.told htv
              have HRE : Hid ((doesC (playC D0 (ops.take m)) x.o).1 = tv) := by
                have h9 := toldC_get ops D0 m x.o HXI.out
                rw [HSM2.out.1, htv] at h9
                exact (Option.some.inj h9).symm
              have HTV := hide htv
              have HKO : Hid (∀ u : World, Below w.heap.size w u → u.cell? ⟨gO, oO + m * 7, none⟩ = some (.int .i64 x.o.k) ∧ u.cell? ⟨gO, oO + m * 7 + 1, none⟩ = some (.int .i64 x.o.b) ∧ u.cell? ⟨gO, oO + m * 7 + 2, none⟩ = some (.int .i64 x.o.p) ∧ u.cell? ⟨gO, oO + m * 7 + 3, none⟩ = some (.int .i64 x.o.bit) ∧ u.cell? ⟨gO, oO + m * 7 + 4, none⟩ = some (.bool x.o.fit) ∧ u.cell? ⟨gO, oO + m * 7 + 5, none⟩ = some (.slice x.da x.dn x.dc) ∧ u.cell? ⟨gO, oO + m * 7 + 6, none⟩ = some (.slice x.za x.zn x.zc)) := fun u hu => by
                have hh : ∀ {o : Nat} {v : Value}, wr.cell? ⟨gO, o, none⟩ = some v → u.cell? ⟨gO, o, none⟩ = some v := fun h9 => (hu.cell hgO).trans ((hbw.cell hgO).symm.trans h9)
                exact ⟨hh k0, hh k1, hh k2, hh k3, hh k4, hh k5, hh k6⟩
              have HJd := hide (HJ.out.below (drew_below wr))
              clear hxi hxo hbw htv
              go_upto_region 22 with fail
              refine wp_region_held_drew (S := (fun u => u.cell? ⟨gO, oO + m * 7, none⟩ = some (.int .i64 x.o.k) ∧ u.cell? ⟨gO, oO + m * 7 + 1, none⟩ = some (.int .i64 x.o.b) ∧ u.cell? ⟨gO, oO + m * 7 + 2, none⟩ = some (.int .i64 x.o.p) ∧ u.cell? ⟨gO, oO + m * 7 + 3, none⟩ = some (.int .i64 x.o.bit) ∧ u.cell? ⟨gO, oO + m * 7 + 4, none⟩ = some (.bool x.o.fit) ∧ u.cell? ⟨gO, oO + m * 7 + 5, none⟩ = some (.slice x.da x.dn x.dc) ∧ u.cell? ⟨gO, oO + m * 7 + 6, none⟩ = some (.slice x.za x.zn x.zc) ∧ u.cell? ⟨gT, m, none⟩ = some (.int .i64 tv))) (by kernel_rfl) (⟨k0, k1, k2, k3, k4, k5, k6, kT⟩) (fun hHeld => ?_)
              refine wpAnyH_take (i := 0) (oi := { dst := some 88, op := Op.move (Operand.tmp 14), type := 29, pos := "outright.go:223", after := #[], guard := none }) (v := ?v0q) rfl (by kernel_rfl) (by kernel_rfl) (by kernel_rfl) (fun _ _ _ h => h) (Or.inl ⟨by rfl, ?y0q⟩) (by assumption) ?r0q
              case y0q => (intro x hx; (try dsimp only at hx); go_simp; try with_reducible rfl)
              try simp only [Act.put, List.setIfInBounds_toArray, List.set_cons_zero, List.set_cons_succ]
              refine wpAnyH_take (i := 1) (oi := { dst := some 89, op := Op.move (Operand.tmp 2), type := 50, pos := "outright.go:223", after := #[], guard := none }) (v := ?v1q) rfl (by kernel_rfl) (by kernel_rfl) (by kernel_rfl) (fun _ _ _ h => h) (Or.inl ⟨by rfl, ?y1q⟩) (by assumption) ?r1q
              case y1q => (intro x hx; (try dsimp only at hx); go_simp; try with_reducible rfl)
              try simp only [Act.put, List.setIfInBounds_toArray, List.set_cons_zero, List.set_cons_succ]
              refine wpAnyH_take (i := 2) (oi := { dst := some 90, op := Op.move (Operand.tmp 15), type := 3, pos := "outright.go:223", after := #[], guard := none }) (v := ?v2q) rfl (by kernel_rfl) (by kernel_rfl) (by kernel_rfl) (fun _ _ _ h => h) (Or.inl ⟨by rfl, ?y2q⟩) (by assumption) ?r2q
              case y2q => (intro x hx; (try dsimp only at hx); go_simp; try with_reducible rfl)
              try simp only [Act.put, List.setIfInBounds_toArray, List.set_cons_zero, List.set_cons_succ]
              refine wpAnyH_take (i := 3) (oi := { dst := some 91, op := Op.indexAddr 50 (Operand.tmp 89) (Operand.tmp 90), type := 0, pos := "outright.go:223", after := #[{ on := 1, ground := Ground.data }, { on := 2, ground := Ground.data }], guard := none }) (v := ?v3q) rfl (by kernel_rfl) (by kernel_rfl) (by kernel_rfl) (fun _ _ _ h => h) (Or.inl ⟨by rfl, ?y3q⟩) (by assumption) ?r3q
              case y3q => (intro x hx; (try dsimp only at hx); go_simp; try with_reducible rfl)
              try simp only [Act.put, List.setIfInBounds_toArray, List.set_cons_zero, List.set_cons_succ]
              refine wpAnyH_take (i := 4) (oi := { dst := some 92, op := Op.load 56 (Operand.tmp 91), type := 56, pos := "outright.go:223", after := #[{ on := 3, ground := Ground.data }], guard := none }) (v := ?v4q) rfl (by kernel_rfl) (by kernel_rfl) (by kernel_rfl) (fun _ _ _ h => h) (Or.inl ⟨by rfl, ?y4q⟩) (by assumption) ?r4q
              case y4q => (intro x hx; (try dsimp only at hx); go_simp; try with_reducible rfl)
              try simp only [Act.put, List.setIfInBounds_toArray, List.set_cons_zero, List.set_cons_succ]
              refine wpAnyH_take (i := 6) (oi := { dst := some 94, op := Op.move (Operand.tmp 10), type := 53, pos := "outright.go:223", after := #[], guard := none }) (v := ?v6q) rfl (by kernel_rfl) (by kernel_rfl) (by kernel_rfl) (fun _ _ _ h => h) (Or.inl ⟨by rfl, ?y6q⟩) (by assumption) ?r6q
              case y6q => (intro x hx; (try dsimp only at hx); go_simp; try with_reducible rfl)
              try simp only [Act.put, List.setIfInBounds_toArray, List.set_cons_zero, List.set_cons_succ]
              refine wpAnyH_take (i := 7) (oi := { dst := some 95, op := Op.move (Operand.tmp 15), type := 3, pos := "outright.go:223", after := #[], guard := none }) (v := ?v7q) rfl (by kernel_rfl) (by kernel_rfl) (by kernel_rfl) (fun _ _ _ h => h) (Or.inl ⟨by rfl, ?y7q⟩) (by assumption) ?r7q
              case y7q => (intro x hx; (try dsimp only at hx); go_simp; try with_reducible rfl)
              try simp only [Act.put, List.setIfInBounds_toArray, List.set_cons_zero, List.set_cons_succ]
              refine wpAnyH_take (i := 8) (oi := { dst := some 96, op := Op.indexAddr 53 (Operand.tmp 94) (Operand.tmp 95), type := 0, pos := "outright.go:223", after := #[{ on := 6, ground := Ground.data }, { on := 7, ground := Ground.data }], guard := none }) (v := ?v8q) rfl (by kernel_rfl) (by kernel_rfl) (by kernel_rfl) (fun _ _ _ h => h) (Or.inl ⟨by rfl, ?y8q⟩) (by assumption) ?r8q
              case y8q => (intro x hx; (try dsimp only at hx); go_simp; try with_reducible rfl)
              try simp only [Act.put, List.setIfInBounds_toArray, List.set_cons_zero, List.set_cons_succ]
              refine wpAnyH_take (i := 9) (oi := { dst := some 97, op := Op.load 30 (Operand.tmp 96), type := 30, pos := "outright.go:223", after := #[{ on := 8, ground := Ground.data }], guard := none }) (v := ?v9q) rfl (by kernel_rfl) (by kernel_rfl) (by kernel_rfl) (fun _ _ _ h => h) (Or.inl ⟨by rfl, ?y9q⟩) (by assumption) ?r9q
              case y9q => (intro x hx; (try dsimp only at hx); go_simp; try with_reducible rfl)
              try simp only [Act.put, List.setIfInBounds_toArray, List.set_cons_zero, List.set_cons_succ]
              refine wpAnyH_ready (rs := [5]) (by kernel_rfl) (by simp) ?_
              refine AllReadyH.cons (o := { dst := some 93, op := Op.call { callee := Callee.value (Operand.func 22), args := #[Operand.tmp 88, Operand.tmp 92], argTypes := #[29, 56] }, type := 30, pos := "outright.go:223", after := #[{ on := 0, ground := Ground.data }, { on := 4, ground := Ground.data }], guard := none }) rfl (fun K hK => ?_) AllReadyH.nil
              go_simp
              go_at_call 22
              refine (does_any _ p2 F3 _ HJd.out.fa.hd.ch HLi.out.ok (by have := HLi.out.tr; omega) (HLi.out.fl.mono (by omega)) x.o x.da x.dn x.dc x.za x.zn x.zc HXO.out.d HXO.out.z (by have := HXO.out.dl; omega) (by have := HXO.out.zl; omega) HDW.out.1 HDW.out.2 HXO.out.bit).mono ?_
              rintro e u6 ⟨rfl, hc6, ho6⟩
              rw [HRE.out]
              have HJ5 := hide (HJd.out.does hc6 ho6)
              have hcl := HKO.out u6 HJ5.out.fa.hd.bel
              have hSnew := And.intro hcl.1 (And.intro hcl.2.1 (And.intro hcl.2.2.1 (And.intro hcl.2.2.2.1 (And.intro hcl.2.2.2.2.1 (And.intro hcl.2.2.2.2.2.1 (And.intro hcl.2.2.2.2.2.2 (told_cell HJ5.out.fa.told HTV.out)))))))
              clear hc6 ho6 hcl
              go_wp2_with fail
              refine hK.out _ _ hSnew (fun hHeld5 => ?_)
              clear hK K hSnew
              clear hHeld
              have hHeld := hHeld5
              clear hHeld5
              try simp only [Act.put, List.setIfInBounds_toArray, List.set_cons_zero, List.set_cons_succ]
              refine wpAnyH_take (i := 10) (oi := { dst := some 98, op := Op.binOp BinOp.neq 30 (Operand.tmp 93) (Operand.tmp 97) 30, type := 4, pos := "outright.go:223", after := #[{ on := 5, ground := Ground.data }, { on := 9, ground := Ground.data }], guard := none }) (v := ?v10q) rfl (by kernel_rfl) (by kernel_rfl) (by kernel_rfl) (fun _ _ _ h => h) (Or.inl ⟨by rfl, ?y10q⟩) (by assumption) ?r10q
              case y10q => (intro x hx; (try dsimp only at hx); go_simp; try with_reducible rfl)
              try simp only [Act.put, List.setIfInBounds_toArray, List.set_cons_zero, List.set_cons_succ]
              refine wpAnyH_done (by kernel_rfl) ?_ _
              clear hHeld
              go_wp2
              have HP : Hid (playC D0 (ops.take (m + 1)) = (doesC (playC D0 (ops.take m)) x.o).2) := playC_take HXI.out
              rw [← HP.out] at HJ5
              go_roundw
              case rel => exact ⟨m + 1, _, by omega, by go_num, HJ5⟩
              case measure => simp [intOf]; omega
            · have dmm : decide ((m : Int) < (i : Int)) = false := decide_eq_false (by omega)
              obtain ⟨q9, hq9⟩ := HSM2.out.2
              obtain ⟨D1, hD1⟩ : ∃ D, D = setQ C1 q9 := ⟨_, rfl⟩
              have HK : Hid (FD w wr p p2 b7 F F3 C1 D1 tv i ts) := by
                have h9 := HJ.out
                rw [List.take_of_length_le (by omega), hq9, ← hD1] at h9
                exact h9
              have hDB : D1.B = C1.B := by rw [hD1]; rfl
              have hDP : D1.P = C1.P := by rw [hD1]; rfl
              have hDS : D1.S = C1.S := by rw [hD1]; rfl
              have hDI : imgL D1 = imgL C1 := by rw [hD1]; rfl
              have hDl : D1.bl = C1.bl := by rw [hD1]; rfl
              have hDt : D1.tr = C1.tr := by rw [hD1]; rfl
              have hDd : D1.dark = C1.dark := by rw [hD1]; rfl
              have hDc : D1.cnt = C1.cnt := by rw [hD1]; rfl
              have HL1 : Hid (Life C1 i) := by
                have h9 := HL0.out.play ops
                rw [← HC1.out, hol, Nat.zero_add] at h9
                exact h9
              have hok1 := HL1.out.ok
              have hok2 : D1.Ok := by rw [hD1]; exact ⟨hok1.fits, hok1.bl, hok1.ps, hok1.cnt, hok1.fl⟩
              have htl1 : C1.tr.length ≤ 1600000000000 := by have := HL1.out.tr; omega
              have hblB : (C1.bl.map (fun b => b.m)).length = C1.B := by rw [List.length_map]; exact hok1.bl
              have HBB : Hid (C1.B ≤ 4096) := hok1.b.2
              have HHD := hide (And.intro hDB (And.intro hDP (And.intro hDS (And.intro hDI (And.intro hDl (And.intro hDt (And.intro hDd hDc)))))))
              clear HJ hq9 hD1 hDB hDP hDS hDI hDl hDt hDd hDc
              go_wp2_with (first
                | (go_at_call 15; refine (Image_any _ p2 F3 D1 HK6.out.fa.hd.ch hok2).mono ?_; rintro e u7 ⟨⟨gc2, cc2, gm2, cm2, rfl, oc2, om2, _⟩, b7'⟩; rw [HHD.out.1, HHD.out.2.1, HHD.out.2.2.1] at oc2 ⊢; rw [HHD.out.2.2.2.1] at oc2; rw [HHD.out.2.2.2.2.1] at om2; have HK7 := hide (HK6.out.below b7'); have HC7 := hide (own_reads' oc2 HRG.out); have HM7 := hide (readsB_img' om2 hblB); have HC6b := hide (HC6.out.below b7'); have HM6b := hide (HM6.out.below b7'); clear oc2 om2 b7')
                | (go_at_call 15; refine (Image_any _ p F C1 HK.out.c hok1).mono ?_; rintro e u6 ⟨⟨gc1, cc1, gm1, cm1, rfl, oc1, om1, _⟩, b6⟩; have HK6 := hide (HK.out.below b6); have HRG := hide (img_range HK.out.c); have HC6 := hide (own_reads' oc1 HRG.out); have HM6 := hide (readsB_img' om1 hblB); clear oc1 om1 b6)
                | (go_at_call 16; refine (sameImage_eq _ _ _ _ _ _ _ _ (C1.B * C1.P * pgB C1.S) _ _ C1.B _ _ (imgL C1) (C1.bl.map (fun b => b.m)) HC6b.out HC7.out HM6b.out HM7.out (by have := HBB.out; omega)).mono ?_; rintro e u8 ⟨rfl, b8⟩; have HK8 := hide (HK7.out.below b8); clear b8)
                | (go_at_call 19; refine (Trace_any _ p2 F3 D1 HK9.out.fa.hd.ch (by rw [HHD.out.2.2.2.2.2.1]; omega)).mono ?_; rintro e u10 ⟨v10, rfl, ow10, b10⟩; rw [HHD.out.2.2.2.2.2.1] at ow10; obtain ⟨ta2, tn2, tc2, hv10⟩ := own_slice ow10; subst hv10; have hn10 := own_n ow10; subst hn10; have HK10 := hide (HK9.out.below b10); have HT10 := hide ow10; have HT9b := hide (owns_bel HT9.out b10); clear ow10 b10)
                | (go_at_call 19; refine (Trace_any _ p F C1 HK8.out.c (by omega)).mono ?_; rintro e u9 ⟨v9, rfl, ow9, b9⟩; obtain ⟨ta1, tn1, tc1, hv9⟩ := own_slice ow9; subst hv9; have hn9 := own_n ow9; subst hn9; have HK9 := hide (HK8.out.below b9); have HT9 := hide ow9; clear ow9 b9)
                | (go_at_call 23; refine (sameTrace_eq _ _ _ C1.tr.length _ _ _ _ C1.tr HT9b.out HT10.out (by omega)).mono ?_; rintro e u11 ⟨rfl, b11⟩; have HK11 := hide (HK10.out.below b11); clear b11)
                | (go_at_call 17; refine (Dark_any _ p F C1 HK11.out.c).mono ?_; rintro e v1 ⟨rfl, hv1⟩; subst hv1)
                | (go_at_call 17; refine (Dark_any _ p2 F3 D1 HK11.out.fa.hd.ch).mono ?_; rintro e v1 ⟨rfl, hv1⟩; subst hv1; rw [HHD.out.2.2.2.2.2.2.1])
                | (go_at_call 18; refine (Count_any _ p F C1 HK11.out.c).mono ?_; rintro e v1 ⟨rfl, hv1⟩; subst hv1)
                | (go_at_call 18; refine (Count_any _ p2 F3 D1 HK11.out.fa.hd.ch).mono ?_; rintro e v1 ⟨rfl, hv1⟩; subst hv1; rw [HHD.out.2.2.2.2.2.2.2])
                | (go_at_call 12; refine (heads_any _).mono ?_; rintro e u12 ⟨rfl, b12⟩; have HK12 := hide (HK11.out.below b12); clear b12))
              go_ret
              exact ⟨rfl, HK12.out.fa.hd.bel⟩
end Go.Proofs.Ytadlkikjfonkgaa
