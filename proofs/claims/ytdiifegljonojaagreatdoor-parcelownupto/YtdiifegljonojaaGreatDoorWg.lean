/-
  SEAT YtdiifegljonojaaGreatDoor: a file's data are laid.
-/
import Derived.Test.YtdiifegljonojaaGreatDoorWf
namespace Go.Proofs.YtdiifegljonojaaGreatDoor
open Go.RowKit
set_option linter.unusedVariables false

theorem fin_flat {α β : Type} (L : List α) (N : Nat) (h : L.length = N) {f : α → List β} : (List.finRange N).flatMap (fun i => f (L[i.val]'(by rw [h]; exact i.isLt))) = L.flatMap f := by
  subst h
  have h1 : (List.finRange L.length).map (fun i => L[i.val]'(i.isLt)) = L := by
    apply List.ext_getElem
    · simp
    · intro i h1 h2
      simp
  conv => rhs; rw [← h1]
  rw [List.flatMap_map]
theorem blk3v {w : World} {q : Nat} {a b c : Value} {t : TypeId} (h : w.heap[q]? = some (.cells #[a, b, c] t (0, 0))) : w.cell? ⟨q, 0, none⟩ = some a ∧ w.cell? ⟨q, 1, none⟩ = some b ∧ w.cell? ⟨q, 2, none⟩ = some c := by
  refine ⟨?_, ?_, ?_⟩ <;> simp [World.cell?, h]
theorem Reads.news' {w : World} {a : Option Addr} {n : Nat} {zs : List Int} (h : Reads w a n zs) (x : Addr) (hx : a = some x) (j : Nat) (u : Value) (hu : (zs.map (Value.int .u8))[j]? = some u) : w.cell? (x.add j) = some u := by
  subst hx; exact h.news j u hu

attribute [local go_sem] Oper.semAt_some

set_option maxHeartbeats 4000000 in
set_option maxRecDepth 100000 in
theorem data_some (B q bk off n c : Nat) (laid : List Int) (zs : List Int) (w : World) (hW : WrA w B q laid) (hl : laid.length ≤ 40000000000000) (hr : Reads w (some ⟨bk, off, none⟩) n zs) (hn : n ≤ 16777216) (hnc : n ≤ c) (hc : c ≤ 9223372036854775807) (hbk : bk < B) :
    Calls Tryz.prog 41 #[.pointer (some ⟨q, 0, none⟩), .slice (some ⟨bk, off, none⟩) n c] w fun e w' => e = .returned (.tuple #[]) ∧ WrA w' B q (laid ++ encD zs) ∧ Kw B w w' := by
  have hBw := hW.size
  have hb1 := below_alloc w (.cells #[.pointer (some ⟨q, 0, none⟩)] 45)
  have hpx : (w.alloc (.cells #[.pointer (some ⟨q, 0, none⟩)] 45)).heap[w.heap.size]? = some (.cells #[.pointer (some ⟨q, 0, none⟩)] 45 (0, 0)) := heap_alloc_new w _
  have HN := hide (whole_w B q laid 4 (n : Int) _ (hW.below hb1) (by omega) (by omega) (by omega) (by omega) (by show (n : Int) < 4294967296; omega))
  have HK0 := hide (Kw.of_below hBw hb1)
  have HPX := hide hpx
  have HR := hide hr
  have HLZ := hide hr.1
  obtain ⟨c66, f66⟩ := blk1_cells hpx
  obtain ⟨L1, hL1⟩ : ∃ L1, laid ++ numL 4 (n : Int) = L1 := ⟨_, rfl⟩
  have hll : L1.length ≤ 40000000000004 := by rw [← hL1, List.length_append, numL_length]; omega
  have HLL := hide hll
  have HL1 := hide hL1
  rw [hL1] at HN
  clear hW hb1 hpx hr hL1 hll
  refine (callsIn_wide (n := 3)).1 ?_
  refine callsIn_of_wp_marks Tryz.func41 rfl trivial ?_ rfl
  refine wpIn_mono ?_ noPanic_le
  simp only [Tryz.ntmps41, List.size_toArray, List.length_cons, List.length_nil, Nat.reduceAdd, Nat.reduceSub, Array.replicate_succ, Array.replicate_zero, List.push_toArray, List.append_toArray, List.nil_append, List.cons_append]
  refine wpIn_wide.2 ?_
  go_wp2_with (first
    | (go_at_call 33; refine HN.out.mono ?_; rintro e u1 ⟨rfl, a1, k1⟩
       have HA1 := hide a1
       have HK1 := hide (HK0.out.trans k1)
       have HP1 := hide (k1.blk HPX.out (by decide) (by decide))
       clear a1 k1 HN c66 f66)
    | (go_at_call 67; refine (stretches_any _ _ _ _).mono ?_; rintro e u9 ⟨rfl, hu9⟩; rw [hu9]; clear hu9))
  have hb2 := below_alloc u1 (.cells #[.slice (some ⟨bk, off, none⟩) n c] 25)
  have hdx : (u1.alloc (.cells #[.slice (some ⟨bk, off, none⟩) n c] 25)).heap[u1.heap.size]? = some (.cells #[.slice (some ⟨bk, off, none⟩) n c] 25 (0, 0)) := heap_alloc_new u1 _
  have HKU := hide (HK1.out.trans (Kw.of_below (Nat.le_trans hBw HK1.out.bel.size) hb2))
  have HAU := hide (HA1.out.below hb2)
  have HPU := hide ((hb2.block _ (Array.getElem?_eq_some_iff.1 HP1.out).1).trans HP1.out)
  have HDU := hide hdx
  have hP1s : w.heap.size < u1.heap.size := (Array.getElem?_eq_some_iff.1 HP1.out).1
  clear hb2 hdx HA1 HK1 HP1
  obtain ⟨U, hU⟩ : ∃ U, u1.alloc (.cells #[.slice (some ⟨bk, off, none⟩) n c] 25) = U := ⟨_, rfl⟩
  have hUs : U.heap.size = u1.heap.size + 1 := by rw [← hU]; simp
  rw [hU] at HKU HAU HPU HDU ⊢
  have HUS := hide hUs
  have hwU : w.heap.size < U.heap.size := by omega
  have huU : u1.heap.size < U.heap.size := by omega
  have hBU : B ≤ U.heap.size := by omega
  obtain ⟨L, hL⟩ : ∃ L, cuts zs = L := ⟨_, rfl⟩
  obtain ⟨N, hLN⟩ : ∃ N, L.length = N := ⟨_, rfl⟩
  have HRU := hide (HR.out.low (B := B) (fun x hx => by cases hx; exact hbk) HKU.out.bel)
  have HSEQ := hide (strs_stops 2 u1.heap.size B bk off n c zs L N hLN hL.symm HLZ.out (by omega) hnc hc hbk U HDU.out HRU.out)
  have HLC := hide hL
  obtain ⟨D1, hD1⟩ : ∃ D1 : Nat, u1.heap.size = D1 := ⟨_, rfl⟩
  obtain ⟨P1, hP1⟩ : ∃ P1 : Nat, w.heap.size = P1 := ⟨_, rfl⟩
  rw [hD1] at HSEQ HDU huU
  rw [hP1] at HPU hwU
  have hacc : ∀ x : Fin N, L[x.val]'(by rw [hLN]; exact x.isLt) ∈ cuts zs := fun x => by rw [hL]; exact List.getElem_mem _
  have HACC := hide hacc
  clear hL hU hUs hacc
  refine (wpIn_wide (n := 3)).1 ?_
  rw [hD1, hP1]
  refine' wpIn_rangeFunc_ownH (n := 3) rfl (show 1 ≤ 3 by decide) (gf := 85) (lb := #[.pointer (some ⟨D1, 0, none⟩)]) rfl trivial (enters_of Tryz.func85 (by kernel_rfl) rfl)
    HSEQ.out kpg_t (kpg_b hBU huU) (Below.refl _ _) (fun _ => rfl)
    (fun pre W => WrA W B q (L1 ++ pre.flatMap (fun i => encR zs (L[i.val]'(by rw [hLN]; exact i.isLt)))) ∧ W.heap[P1]? = some (.cells #[.pointer (some ⟨q, 0, none⟩)] 45 (0, 0)) ∧ W.heap[D1]? = some (.cells #[.slice (some ⟨bk, off, none⟩) n c] 25 (0, 0)) ∧ Kw B w W)
    (fun _ _ _ => False)
    ?hI (fun _ _ _ _ _ hs _ _ => hs) ?h0
    (fun x a' W => ∃ p, a' = { tmps := #[.pointer (some ⟨q, 0, none⟩), .slice (some ⟨bk, off, none⟩) n c, .pointer (some ⟨P1, 0, none⟩), undef, .pointer (some ⟨p, 0, none⟩), .pointer (some ⟨q, 0, none⟩), .slice (some ⟨bk, off, none⟩) n c, .int .i64 (n : Int), .tuple #[], .slice (some ⟨bk, off, none⟩) n c, .func (.func 85) #[] #[.pointer (some ⟨D1, 0, none⟩)], (L[x.val]'(by rw [hLN]; exact x.isLt)).val bk off c, undef, undef, undef, undef, undef, undef, undef, undef, undef, undef, undef, undef, undef, undef, undef, undef, undef, undef], defers := [] } ∧ W.heap[p]? = some (.cells #[.int .i64 ((L[x.val]'(by rw [hLN]; exact x.isLt)).pos : Int), .int .i64 ((L[x.val]'(by rw [hLN]; exact x.isLt)).len : Int), (if (L[x.val]'(by rw [hLN]; exact x.isLt)).hole then .slice none 0 0 else .slice (some ⟨bk, off + (L[x.val]'(by rw [hLN]; exact x.isLt)).pos, none⟩) (L[x.val]'(by rw [hLN]; exact x.isLt)).len (c - (L[x.val]'(by rw [hLN]; exact x.isLt)).pos))] 94 (0, 0)))
    ?hAx ?assign ?body ?done ?stop
  case hI => exact OwnFrom.and (Go.Own.from (wrAt_own B q (fun pre : List (Fin N) => L1 ++ pre.flatMap (fun i => encR zs (L[i.val]'(by rw [hLN]; exact i.isLt))))) _) (OwnFrom.and (Go.Own.from (blk_own _ _ _ _) _) (OwnFrom.and (Go.Own.from (blk_own _ _ _ _) _) (ownFrom_kw hBw (Nat.le_trans (Nat.le_of_eq hP1) (Nat.le_of_lt hwU)))))
  case h0 => exact ⟨by simpa using HAU.out, HPU.out, HDU.out, HKU.out⟩
  case hAx =>
    intro x a' s X Y row hs hg hrow
    obtain ⟨p, h1, h2⟩ := hs
    exact ⟨p, h1, blk_own (β := Unit) _ _ _ _ () X Y row h2 hg (fun r e => (hrow r e).2)⟩
  case assign =>
    rintro l pre x W K ⟨hi1, hi2, hi3, hi4⟩ hK
    have HKK := hide hK
    have HI1 := hide hi1
    have HI2 := hide hi2
    have HI3 := hide hi3
    have HI4 := hide hi4
    clear hK hi1 hi2 hi3 hi4
    obtain ⟨s, hs⟩ : ∃ s, L[x.val]'(by rw [hLN]; exact x.isLt) = s := ⟨_, rfl⟩
    have hv : encS bk off c L N hLN x = #[.agg #[.int .i64 (s.pos : Int), .int .i64 (s.len : Int), (if s.hole then .slice none 0 0 else .slice (some ⟨bk, off + s.pos, none⟩) s.len (c - s.pos))]] := by
      show #[Sr.val bk off c (L[x.val]'_)] = _
      rw [hs]; rfl
    obtain ⟨vv, hvv⟩ : ∃ vv : Value, (if s.hole then Value.slice none 0 0 else .slice (some ⟨bk, off + s.pos, none⟩) s.len (c - s.pos)) = vv := ⟨_, rfl⟩
    have hv3 : ∃ a9 n9 c9, vv = .slice a9 n9 c9 := by rw [← hvv]; split <;> exact ⟨_, _, _, rfl⟩
    obtain ⟨a9, n9, c9, hv9⟩ := hv3
    have hb := below_alloc W (.cells #[.int .i64 (s.pos : Int), .int .i64 (s.len : Int), vv] 94)
    have hfin := HKK.out { tmps := #[.pointer (some ⟨q, 0, none⟩), .slice (some ⟨bk, off, none⟩) n c, .pointer (some ⟨P1, 0, none⟩), undef, .pointer (some ⟨W.heap.size, 0, none⟩), .pointer (some ⟨q, 0, none⟩), .slice (some ⟨bk, off, none⟩) n c, .int .i64 (n : Int), .tuple #[], .slice (some ⟨bk, off, none⟩) n c, .func (.func 85) #[] #[.pointer (some ⟨D1, 0, none⟩)], .agg #[.int .i64 (s.pos : Int), .int .i64 (s.len : Int), vv], undef, undef, undef, undef, undef, undef, undef, undef, undef, undef, undef, undef, undef, undef, undef, undef, undef, undef], defers := [] } (W.alloc (.cells #[.int .i64 (s.pos : Int), .int .i64 (s.len : Int), vv] 94))
      ((KeepsOthers.alloc _ _).from _) ⟨hb.mono (HI1.out.size), fun o ho => (hb.block _ (Array.getElem?_eq_some_iff.1 ho).1).trans ho⟩
      ⟨HI1.out.below hb, (hb.block _ (Array.getElem?_eq_some_iff.1 HI2.out).1).trans HI2.out, (hb.block _ (Array.getElem?_eq_some_iff.1 HI3.out).1).trans HI3.out, HI4.out.trans (Kw.of_below (HI1.out.size) hb)⟩
      ⟨W.heap.size, by rw [hs]; unfold Sr.val; rw [hvv], by rw [hs, hvv]; exact heap_alloc_new W _⟩
    have HFIN := hide hfin
    clear hfin HKK hb
    rw [hv, hvv]
    clear hv hvv hs
    subst hv9
    gi_wp2
    exact HFIN.out
  case body =>
    rintro l pre x a' W hl9 hlp ⟨hi1, hi2, hi3, hi4⟩ ⟨p, rfl, hbx⟩ hlt
    obtain ⟨s, hs⟩ : ∃ s, L[x.val]'(by rw [hLN]; exact x.isLt) = s := ⟨_, rfl⟩
    have hsm := HACC.out x
    rw [hs] at hbx hsm
    obtain ⟨hsa, hsb⟩ := cuts_ok hsm
    rw [HLZ.out] at hsa
    have hfl : (pre.flatMap (fun i => encR zs (L[i.val]'(by rw [hLN]; exact i.isLt)))).length ≤ 2097153 * 16777221 := by
      have h1 := flat_len (zs := zs) (pre.map (fun i => L[i.val]'(by rw [hLN]; exact i.isLt))) (by
        intro y hy
        obtain ⟨i, _, rfl⟩ := List.mem_map.1 hy
        exact (cuts_ok (HACC.out i)).1)
      rw [List.flatMap_map, List.length_map] at h1
      have h2 : 8 * N ≤ n + 8 := by rw [← hLN, ← HLC.out, ← HLZ.out]; exact cuts_few zs
      have h3 : pre.length * (5 + zs.length) ≤ 2097153 * 16777221 := by rw [HLZ.out]; exact Nat.mul_le_mul (by omega) (by omega)
      exact Nat.le_trans h1 h3
    obtain ⟨X, hX⟩ : ∃ X, L1 ++ pre.flatMap (fun i => encR zs (L[i.val]'(by rw [hLN]; exact i.isLt))) = X := ⟨_, rfl⟩
    have hXl : X.length ≤ 80000000000000 := by rw [← hX, List.length_append]; have := HLL.out; omega
    rw [hX] at hi1
    have HXX := hide hX
    have HSS := hide hs
    have HW0 := hide hi1
    have HP0 := hide hi2
    have HD0 := hide hi3
    have HK0W := hide hi4
    clear hi1 hi2 hi3 hi4 hfl hsm hX hlp
    rw [hs]
    clear hs
    obtain ⟨ps, ln, ho⟩ := s
    simp only at hsa hsb hbx
    cases ho with
    | true =>
      simp only [Sr.val, if_true] at hbx ⊢
      have HX0 := hide hbx
      clear hbx
      have hfw : ∀ f, (Fence.wide.inRound l).fn f := fun _ => trivial
      have hdw : (Fence.wide.inRound l).depth.isSome = false := rfl
      refine wpIn_block ?_
      refine wpIn_seq ?_
      refine wpIn_region_round (S := (fun y : World => y.cell? ⟨P1, 0, none⟩ = some (.pointer (some ⟨q, 0, none⟩)) ∧ y.cell? ⟨p, 0, none⟩ = some (.int .i64 (ps : Int)) ∧ y.cell? ⟨p, 1, none⟩ = some (.int .i64 (ln : Int)) ∧ y.cell? ⟨p, 2, none⟩ = some (.slice none 0 0))) (by kernel_rfl) (by kernel_rfl) (fun h => by obtain ⟨_, _, h⟩ := h; exact h) (⟨(blk1_cells HP0.out).1, (blk3v HX0.out).1, (blk3v HX0.out).2.1, (blk3v HX0.out).2.2⟩) (fun hHeld => ?_)
      refine wpAnyH_take (i := 0) (oi := { dst := some 12, op := Op.load 45 (Operand.tmp 2), type := 45, pos := "write.go:47", after := #[], guard := none }) (v := ?v0d) rfl (by kernel_rfl) (by kernel_rfl) (by kernel_rfl) (fun _ _ _ h => h) (Or.inl ⟨by rfl, ?y0d⟩) (by assumption) ?r0d
      case y0d => (intro x hx; (try dsimp only at hx); go_simp; try with_reducible rfl)
      try simp only [Act.put, List.setIfInBounds_toArray, List.set_cons_zero, List.set_cons_succ]
      refine wpAnyH_take (i := 1) (oi := { dst := some 13, op := Op.load 94 (Operand.tmp 4), type := 94, pos := "write.go:47", after := #[], guard := none }) (v := ?v1d) rfl (by kernel_rfl) (by kernel_rfl) (by kernel_rfl) (fun _ _ _ h => h) (Or.inl ⟨by rfl, ?y1d⟩) (by assumption) ?r1d
      case y1d => (intro x hx; (try dsimp only at hx); go_simp; try with_reducible rfl)
      try simp only [Act.put, List.setIfInBounds_toArray, List.set_cons_zero, List.set_cons_succ]
      refine wpAnyH_ready (rs := [2]) (by kernel_rfl) (by simp) ?_
      refine AllReadyH.cons (o := { dst := some 14, op := Op.call { callee := Callee.value (Operand.func 68), args := #[Operand.tmp 13], argTypes := #[94] }, type := 3, pos := "write.go:47", after := #[{ on := 1, ground := Ground.data }], guard := none }) rfl (fun K hK => ?_) AllReadyH.nil
      go_simp
      go_at_call 68
      refine (kind_hole (ps : Int) (ln : Int) _).mono ?_
      rintro e v1 ⟨rfl, b1⟩
      have b1 := ((Below.refl W.heap.size W).drew).trans b1
      have HP1 : Hid (v1.heap[P1]? = some (.cells #[.pointer (some ⟨q, 0, none⟩)] 45 (0, 0))) := (b1.block _ (Array.getElem?_eq_some_iff.1 HP0.out).1).trans HP0.out
      have HD1 : Hid (v1.heap[D1]? = some (.cells #[.slice (some ⟨bk, off, none⟩) n c] 25 (0, 0))) := (b1.block _ (Array.getElem?_eq_some_iff.1 HD0.out).1).trans HD0.out
      have HX1 : Hid (v1.heap[p]? = some (.cells #[.int .i64 (ps : Int), .int .i64 (ln : Int), .slice none 0 0] 94 (0, 0))) := (b1.block _ (Array.getElem?_eq_some_iff.1 HX0.out).1).trans HX0.out
      have HW1 := hide (HW0.out.below b1)
      have HK1 := hide (Kw.of_below (B := B) (Nat.le_trans hBw HK0W.out.bel.size) b1)
      have hSnew := And.intro (blk1_cells HP1.out).1 (And.intro (blk3v HX1.out).1 (And.intro (blk3v HX1.out).2.1 (blk3v HX1.out).2.2))
      clear b1
      go_wp2_with fail
      refine hK.out _ _ hSnew (fun hHeld2 => ?_)
      clear hK K hSnew
      clear hHeld
      have hHeld := hHeld2
      clear hHeld2
      try simp only [Act.put, List.setIfInBounds_toArray, List.set_cons_zero, List.set_cons_succ]
      refine wpAnyH_ready (rs := [3]) (by kernel_rfl) (by simp) ?_
      refine AllReadyH.cons (o := { dst := some 15, op := Op.call { callee := Callee.value (Operand.func 33), args := #[Operand.tmp 12, Operand.const (Value.int IntKind.i64 1), Operand.tmp 14], argTypes := #[45, 3, 3] }, type := 0, pos := "write.go:47", after := #[{ on := 0, ground := Ground.data }, { on := 2, ground := Ground.data }, { on := 2, ground := Ground.chain }], guard := none }) rfl (fun K hK => ?_) AllReadyH.nil
      go_simp
      go_at_call 33
      refine (whole_w B q X 1 0 _ HW1.out (by omega) (by omega) (by omega) (by omega) (by decide)).mono ?_
      rintro e v2 ⟨rfl, a2, k2⟩
      have HP2 := hide (k2.blk HP1.out (by decide) (by decide))
      have HD2 := hide (k2.blk HD1.out (by decide) (by decide))
      have HX2 := hide (k2.blk HX1.out (by decide) (by decide))
      have HW2 := hide a2
      have HK2 := hide k2
      have hSnew := And.intro (blk1_cells HP2.out).1 (And.intro (blk3v HX2.out).1 (And.intro (blk3v HX2.out).2.1 (blk3v HX2.out).2.2))
      clear a2 k2
      go_wp2_with fail
      refine hK.out _ _ hSnew (fun hHeld3 => ?_)
      clear hK K hSnew
      clear hHeld
      have hHeld := hHeld3
      clear hHeld3
      try simp only [Act.put, List.setIfInBounds_toArray, List.set_cons_zero, List.set_cons_succ]
      refine wpAnyH_done (by kernel_rfl) ?_ _
      gi_wp2_with (first
        | (gi_at_call 33; refine CallsIn.mono (CallsIn.inRound l (callsIn_wide.2 (whole_w B q (X ++ numL 1 0) 4 (ln : Int) _ HW2.out (by rw [List.length_append, numL_length]; omega) (by omega) (by omega) (by omega) (by show (ln : Int) < 4294967296; omega)))) ?_; rintro e v3 ⟨rfl, a3, k3⟩
           have HP3 := hide (k3.blk HP2.out (by decide) (by decide))
           have HD3 := hide (k3.blk HD2.out (by decide) (by decide))
           have HX3 := hide (k3.blk HX2.out (by decide) (by decide))
           have HW3 := hide a3
           have HK3 := hide ((HK1.out.trans HK2.out).trans k3)
           have HKW3 := hide (HK0W.out.trans HK3.out)
           clear a3 k3))
      obtain ⟨X3, hX3⟩ : ∃ X3, X ++ numL 1 0 ++ numL 4 (ln : Int) = X3 := ⟨_, rfl⟩
      have hX3l : X3.length ≤ 90000000000000 ∧ 1 ≤ X3.length := by rw [← hX3, List.length_append, List.length_append, numL_length, numL_length]; omega
      rw [hX3] at HW3
      obtain ⟨g3, c3, hq3, ho3, hBq, hby3⟩ := HW3.out
      obtain ⟨m3, hm3⟩ : ∃ m3, X3.length = m3 := ⟨_, rfl⟩
      rw [hm3] at hq3 ho3 hX3l
      obtain ⟨hX3a, hX3b⟩ := hX3l
      have HQ3 := hide hq3
      have HM3 := hide hm3
      have HBY3 := hide hby3
      have HXE := hide hX3
      have HO3d : Hid (Own v3.drew B g3 m3 c3 X3) := ho3.below (Below.refl _ _).drew
      have HQ3d : Hid (v3.drew.heap[q]? = some (.cells #[.slice (some ⟨g3, 0, none⟩) m3 c3] 47 (0, 0))) := hq3
      have HP3d : Hid (v3.drew.heap[P1]? = some (.cells #[.pointer (some ⟨q, 0, none⟩)] 45 (0, 0))) := HP3.out
      have HD3d : Hid (v3.drew.heap[D1]? = some (.cells #[.slice (some ⟨bk, off, none⟩) n c] 25 (0, 0))) := HD3.out
      have HX3d : Hid (v3.drew.heap[p]? = some (.cells #[.int .i64 (ps : Int), .int .i64 (ln : Int), .slice none 0 0] 94 (0, 0))) := HX3.out
      obtain ⟨q0, q1⟩ := blk1_cells HQ3d.out
      obtain ⟨i0, hi0, hz0, hz1, hz2⟩ := info_parts info5
      clear hq3 ho3 hm3 hby3 hX3
      refine wpIn_region_round (S := (fun y : World => y.cell? ⟨P1, 0, none⟩ = some (.pointer (some ⟨q, 0, none⟩)) ∧ y.cell? ⟨p, 0, none⟩ = some (.int .i64 (ps : Int)) ∧ y.cell? ⟨p, 1, none⟩ = some (.int .i64 (ln : Int)) ∧ y.cell? ⟨p, 2, none⟩ = some (.slice none 0 0))) (by kernel_rfl) (by kernel_rfl) (fun h => by obtain ⟨_, _, h⟩ := h; exact h) (⟨(blk1_cells HP3.out).1, (blk3v HX3.out).1, (blk3v HX3.out).2.1, (blk3v HX3.out).2.2⟩) (fun hHeld => ?_)
      refine wpAnyH_take (i := 0) (oi := { dst := some 20, op := Op.load 45 (Operand.tmp 2), type := 45, pos := "write.go:49", after := #[], guard := none }) (v := ?v0e) rfl (by kernel_rfl) (by kernel_rfl) (by kernel_rfl) (fun _ _ _ h => h) (Or.inl ⟨by rfl, ?y0e⟩) (by assumption) ?r0e
      case y0e => (intro x hx; (try dsimp only at hx); go_simp; try with_reducible rfl)
      try simp only [Act.put, List.setIfInBounds_toArray, List.set_cons_zero, List.set_cons_succ]
      refine wpAnyH_take (i := 1) (oi := { dst := some 21, op := Op.load 45 (Operand.tmp 2), type := 45, pos := "write.go:49", after := #[], guard := none }) (v := ?v1e) rfl (by kernel_rfl) (by kernel_rfl) (by kernel_rfl) (fun _ _ _ h => h) (Or.inl ⟨by rfl, ?y1e⟩) (by assumption) ?r1e
      case y1e => (intro x hx; (try dsimp only at hx); go_simp; try with_reducible rfl)
      try simp only [Act.put, List.setIfInBounds_toArray, List.set_cons_zero, List.set_cons_succ]
      refine wpAnyH_take (i := 2) (oi := { dst := some 22, op := Op.nilCheck (Operand.tmp 21), type := 0, pos := "write.go:49", after := #[{ on := 1, ground := Ground.data }], guard := none }) (v := ?v2e) rfl (by kernel_rfl) (by kernel_rfl) (by kernel_rfl) (fun _ _ _ h => h) (Or.inl ⟨by rfl, ?y2e⟩) (by assumption) ?r2e
      case y2e => (intro x hx; (try dsimp only at hx); go_simp; try with_reducible rfl)
      try simp only [Act.put, List.setIfInBounds_toArray, List.set_cons_zero, List.set_cons_succ]
      refine wpAnyH_take (i := 3) (oi := { dst := some 23, op := Op.fieldAddr 47 (Operand.tmp 22) 0, type := 0, pos := "write.go:49", after := #[{ on := 2, ground := Ground.data }], guard := none }) (v := ?v3e) rfl (by kernel_rfl) (by kernel_rfl) (by kernel_rfl) (fun _ _ _ h => h) (Or.inl ⟨by rfl, ?y3e⟩) (by assumption) ?r3e
      case y3e => (intro x hx; (try dsimp only at hx); go_simp; try with_reducible rfl)
      try simp only [Act.put, List.setIfInBounds_toArray, List.set_cons_zero, List.set_cons_succ]
      refine wpAnyH_take (i := 5) (oi := { dst := some 25, op := Op.fieldAddr 94 (Operand.tmp 4) 2, type := 0, pos := "write.go:49", after := #[], guard := none }) (v := ?v5e) rfl (by kernel_rfl) (by kernel_rfl) (by kernel_rfl) (fun _ _ _ h => h) (Or.inl ⟨by rfl, ?y5e⟩) (by assumption) ?r5e
      case y5e => (intro x hx; (try dsimp only at hx); go_simp; try with_reducible rfl)
      try simp only [Act.put, List.setIfInBounds_toArray, List.set_cons_zero, List.set_cons_succ]
      refine wpAnyH_take (i := 6) (oi := { dst := some 26, op := Op.load 25 (Operand.tmp 25), type := 25, pos := "write.go:49", after := #[{ on := 5, ground := Ground.data }], guard := none }) (v := ?v6e) rfl (by kernel_rfl) (by kernel_rfl) (by kernel_rfl) (fun _ _ _ h => h) (Or.inl ⟨by rfl, ?y6e⟩) (by assumption) ?r6e
      case y6e => (intro x hx; (try dsimp only at hx); go_simp; try with_reducible rfl)
      try simp only [Act.put, List.setIfInBounds_toArray, List.set_cons_zero, List.set_cons_succ]
      refine wpAnyH_ready (rs := [4]) (by kernel_rfl) (by simp) ?_
      refine AllReadyH.cons (o := { dst := some 24, op := Op.load 25 (Operand.tmp 23), type := 25, pos := "write.go:49", after := #[{ on := 3, ground := Ground.data }], guard := none }) rfl (fun K hK => ?_) AllReadyH.nil
      go_simp
      go_wp2_with fail
      refine hK.out _ _ hHeld (fun hHeld4 => ?_)
      clear hK K
      clear hHeld4
      try simp only [Act.put, List.setIfInBounds_toArray, List.set_cons_zero, List.set_cons_succ]
      refine wpAnyH_ready (rs := [7]) (by kernel_rfl) (by simp) ?_
      refine AllReadyH.cons (o := { dst := some 27, op := Op.call { callee := Callee.builtin Builtin.append, args := #[Operand.tmp 24, Operand.tmp 26], argTypes := #[25, 25] }, type := 25, pos := "write.go:49", after := #[{ on := 4, ground := Ground.data }, { on := 6, ground := Ground.data }], guard := none }) rfl (fun K hK => ?_) AllReadyH.nil
      refine step_append_src (by rfl) (.tmp 24) (.tmp 26) 25 (by rfl) B 5 i0 _ 1 1 Tryz.underlying25 hi0 hz0 hz1 hz2 rfl (by decide) (.slice (some ⟨g3, 0, none⟩) m3 c3) m3 (X3.map (Value.int .u8)) (by rfl) HO3d.out none 0 0 [] (by rfl) ⟨rfl, fun _ => rfl, fun x hx => by cases hx⟩ (fun u hu => by cases hu) (by simp only [maxLen]; omega) (by omega) (Nat.le_trans hBw HKW3.out.bel.size) ?_
      intro v7 u7 own7 grow7
      have grow7 : v3.drew.grownBy u7 (some g3) := grow7
      rw [List.append_nil] at own7
      obtain ⟨g7, c7, rfl, _⟩ := own_shape own7 (by omega)
      have HO7 : Hid (Own u7 B g7 (m3 + 0) c7 (X3)) := own7
      have hk7 : Kw B v3.drew u7 := Kw.of_own HO3d.out (Nat.le_trans hBw HKW3.out.bel.size) grow7
      have HP7 := hide (hk7.blk HP3d.out (by decide) (by decide))
      have HD7 := hide (hk7.blk HD3d.out (by decide) (by decide))
      have HX7 := hide (hk7.blk HX3d.out (by decide) (by decide))
      have HQ7 : Hid (u7.heap[q]? = some (.cells #[.slice (some ⟨g3, 0, none⟩) m3 c3] 47 (0, 0))) := (grow7.block q (Array.getElem?_eq_some_iff.1 HQ3d.out).1 (fun e => (Own.ne HO3d.out HQ3d.out (by decide)) (by cases e; rfl))).trans HQ3d.out
      have HK7 := hide hk7
      clear hk7 own7 grow7
      have hSnew := And.intro (blk1_cells HP7.out).1 (And.intro (blk3v HX7.out).1 (And.intro (blk3v HX7.out).2.1 (blk3v HX7.out).2.2))
      refine hK.out _ _ hSnew (fun hHeld7 => ?_)
      clear hK K hSnew
      clear hHeld
      have hHeld := hHeld7
      clear hHeld7
      try simp only [Act.put, List.setIfInBounds_toArray, List.set_cons_zero, List.set_cons_succ]
      obtain ⟨e7, f7⟩ := blk1_cells HQ7.out
      refine wpAnyH_take (i := 8) (oi := { dst := some 28, op := Op.nilCheck (Operand.tmp 20), type := 0, pos := "write.go:49", after := #[{ on := 0, ground := Ground.data }, { on := 0, ground := Ground.phase }, { on := 1, ground := Ground.phase }, { on := 2, ground := Ground.phase }, { on := 3, ground := Ground.phase }, { on := 4, ground := Ground.phase }, { on := 5, ground := Ground.phase }, { on := 6, ground := Ground.phase }, { on := 7, ground := Ground.phase }], guard := none }) (v := ?v8e) rfl (by kernel_rfl) (by kernel_rfl) (by kernel_rfl) (fun _ _ _ h => h) (Or.inl ⟨by rfl, ?y8e⟩) (by assumption) ?r8e
      case y8e => (intro x hx; (try dsimp only at hx); go_simp; try with_reducible rfl)
      try simp only [Act.put, List.setIfInBounds_toArray, List.set_cons_zero, List.set_cons_succ]
      refine wpAnyH_take (i := 9) (oi := { dst := some 29, op := Op.fieldAddr 47 (Operand.tmp 28) 0, type := 0, pos := "write.go:49", after := #[{ on := 8, ground := Ground.data }, { on := 0, ground := Ground.phase }, { on := 1, ground := Ground.phase }, { on := 2, ground := Ground.phase }, { on := 3, ground := Ground.phase }, { on := 4, ground := Ground.phase }, { on := 5, ground := Ground.phase }, { on := 6, ground := Ground.phase }, { on := 7, ground := Ground.phase }], guard := none }) (v := ?v9e) rfl (by kernel_rfl) (by kernel_rfl) (by kernel_rfl) (fun _ _ _ h => h) (Or.inl ⟨by rfl, ?y9e⟩) (by assumption) ?r9e
      case y9e => (intro x hx; (try dsimp only at hx); go_simp; try with_reducible rfl)
      try simp only [Act.put, List.setIfInBounds_toArray, List.set_cons_zero, List.set_cons_succ]
      refine wpAnyH_ready (rs := [10]) (by kernel_rfl) (by simp) ?_
      refine AllReadyH.cons (o := { dst := none, op := Op.store 25 (Operand.tmp 29) (Operand.tmp 27), type := 0, pos := "write.go:49", after := #[{ on := 9, ground := Ground.data }, { on := 7, ground := Ground.data }, { on := 7, ground := Ground.chain }, { on := 0, ground := Ground.phase }, { on := 1, ground := Ground.phase }, { on := 2, ground := Ground.phase }, { on := 3, ground := Ground.phase }, { on := 4, ground := Ground.phase }, { on := 5, ground := Ground.phase }, { on := 6, ground := Ground.phase }, { on := 7, ground := Ground.phase }], guard := none }) rfl (fun K hK => ?_) AllReadyH.nil
      go_simp
      go_wp2_with fail
      have hg8 := grownBy_setCell' u7 q (.slice (some ⟨g7, 0, none⟩) (m3 + 0) c7)
      have HK8 := hide (Kw.of_box HQ7.out hBq (Nat.le_trans hBw (Nat.le_trans HKW3.out.bel.size HK7.out.bel.size)) hg8)
      have HP8 := hide (HK8.out.blk HP7.out (by decide) (by decide))
      have HD8 := hide (HK8.out.blk HD7.out (by decide) (by decide))
      have HX8 := hide (HK8.out.blk HX7.out (by decide) (by decide))
      have HQ8 := hide (blk1_0 HQ7.out (.slice (some ⟨g7, 0, none⟩) (m3 + 0) c7))
      have HO8 := hide (Own.apart HO7.out hg8 (Own.ne HO7.out HQ7.out (by decide)).symm)
      have hSnew := And.intro (blk1_cells HP8.out).1 (And.intro (blk3v HX8.out).1 (And.intro (blk3v HX8.out).2.1 (blk3v HX8.out).2.2))
      clear hg8
      refine hK.out _ _ hSnew (fun hHeld10 => ?_)
      clear hK K hSnew
      clear hHeld
      have hHeld := hHeld10
      clear hHeld10
      try simp only [Act.put, List.setIfInBounds_toArray, List.set_cons_zero, List.set_cons_succ]
      refine wpAnyH_done (by kernel_rfl) ?_ _
      have hlen8 : (X3).length = m3 + 0 := by rw [HM3.out]; rfl
      refine ⟨KeepsOthers.from ((((HK3.out.others).trans (KeepsOthers.drew _)).trans HK7.out.others).trans HK8.out.others) _, ⟨?_, fun o ho => by rw [HD0.out] at ho; cases ho; exact HD8.out⟩, ?_, HP8.out, HD8.out, ((HKW3.out.trans (Kw.of_below (Nat.le_trans hBw HKW3.out.bel.size) (Below.refl _ _).drew)).trans HK7.out).trans HK8.out⟩
      · exact ((HK3.out.bel.trans ((Below.refl _ _).drew)).trans HK7.out.bel).trans HK8.out.bel
      · rw [List.flatMap_append, ← List.append_assoc]
        have e8 : (L1 ++ pre.flatMap (fun i => encR zs (L[i.val]'(by rw [hLN]; exact i.isLt)))) ++ ([x].flatMap (fun i => encR zs (L[i.val]'(by rw [hLN]; exact i.isLt)))) = X3 := by
          rw [List.flatMap_singleton, HSS.out, HXX.out, ← HXE.out]
          simp [encR, List.append_assoc]
        rw [e8]
        exact ⟨g7, c7, by rw [hlen8]; exact HQ8.out, by rw [hlen8]; exact HO8.out, hBq, HBY3.out⟩
    | false =>
      simp only [Sr.val, if_false, Bool.false_eq_true] at hbx ⊢
      have HX0 := hide hbx
      clear hbx
      have hfw : ∀ f, (Fence.wide.inRound l).fn f := fun _ => trivial
      have hdw : (Fence.wide.inRound l).depth.isSome = false := rfl
      refine wpIn_block ?_
      refine wpIn_seq ?_
      refine wpIn_region_round (S := (fun y : World => y.cell? ⟨P1, 0, none⟩ = some (.pointer (some ⟨q, 0, none⟩)) ∧ y.cell? ⟨p, 0, none⟩ = some (.int .i64 (ps : Int)) ∧ y.cell? ⟨p, 1, none⟩ = some (.int .i64 (ln : Int)) ∧ y.cell? ⟨p, 2, none⟩ = some (.slice (some ⟨bk, off + ps, none⟩) ln (c - ps)))) (by kernel_rfl) (by kernel_rfl) (fun h => by obtain ⟨_, _, h⟩ := h; exact h) (⟨(blk1_cells HP0.out).1, (blk3v HX0.out).1, (blk3v HX0.out).2.1, (blk3v HX0.out).2.2⟩) (fun hHeld => ?_)
      refine wpAnyH_take (i := 0) (oi := { dst := some 12, op := Op.load 45 (Operand.tmp 2), type := 45, pos := "write.go:47", after := #[], guard := none }) (v := ?v0f) rfl (by kernel_rfl) (by kernel_rfl) (by kernel_rfl) (fun _ _ _ h => h) (Or.inl ⟨by rfl, ?y0f⟩) (by assumption) ?r0f
      case y0f => (intro x hx; (try dsimp only at hx); go_simp; try with_reducible rfl)
      try simp only [Act.put, List.setIfInBounds_toArray, List.set_cons_zero, List.set_cons_succ]
      refine wpAnyH_take (i := 1) (oi := { dst := some 13, op := Op.load 94 (Operand.tmp 4), type := 94, pos := "write.go:47", after := #[], guard := none }) (v := ?v1f) rfl (by kernel_rfl) (by kernel_rfl) (by kernel_rfl) (fun _ _ _ h => h) (Or.inl ⟨by rfl, ?y1f⟩) (by assumption) ?r1f
      case y1f => (intro x hx; (try dsimp only at hx); go_simp; try with_reducible rfl)
      try simp only [Act.put, List.setIfInBounds_toArray, List.set_cons_zero, List.set_cons_succ]
      refine wpAnyH_ready (rs := [2]) (by kernel_rfl) (by simp) ?_
      refine AllReadyH.cons (o := { dst := some 14, op := Op.call { callee := Callee.value (Operand.func 68), args := #[Operand.tmp 13], argTypes := #[94] }, type := 3, pos := "write.go:47", after := #[{ on := 1, ground := Ground.data }], guard := none }) rfl (fun K hK => ?_) AllReadyH.nil
      go_simp
      go_at_call 68
      refine (kind_fill (ps : Int) (ln : Int) ⟨bk, off + ps, none⟩ ln (c - ps) _).mono ?_
      rintro e v1 ⟨rfl, b1⟩
      have b1 := ((Below.refl W.heap.size W).drew).trans b1
      have HP1 : Hid (v1.heap[P1]? = some (.cells #[.pointer (some ⟨q, 0, none⟩)] 45 (0, 0))) := (b1.block _ (Array.getElem?_eq_some_iff.1 HP0.out).1).trans HP0.out
      have HD1 : Hid (v1.heap[D1]? = some (.cells #[.slice (some ⟨bk, off, none⟩) n c] 25 (0, 0))) := (b1.block _ (Array.getElem?_eq_some_iff.1 HD0.out).1).trans HD0.out
      have HX1 : Hid (v1.heap[p]? = some (.cells #[.int .i64 (ps : Int), .int .i64 (ln : Int), .slice (some ⟨bk, off + ps, none⟩) ln (c - ps)] 94 (0, 0))) := (b1.block _ (Array.getElem?_eq_some_iff.1 HX0.out).1).trans HX0.out
      have HW1 := hide (HW0.out.below b1)
      have HK1 := hide (Kw.of_below (B := B) (Nat.le_trans hBw HK0W.out.bel.size) b1)
      have hSnew := And.intro (blk1_cells HP1.out).1 (And.intro (blk3v HX1.out).1 (And.intro (blk3v HX1.out).2.1 (blk3v HX1.out).2.2))
      clear b1
      go_wp2_with fail
      refine hK.out _ _ hSnew (fun hHeld2 => ?_)
      clear hK K hSnew
      clear hHeld
      have hHeld := hHeld2
      clear hHeld2
      try simp only [Act.put, List.setIfInBounds_toArray, List.set_cons_zero, List.set_cons_succ]
      refine wpAnyH_ready (rs := [3]) (by kernel_rfl) (by simp) ?_
      refine AllReadyH.cons (o := { dst := some 15, op := Op.call { callee := Callee.value (Operand.func 33), args := #[Operand.tmp 12, Operand.const (Value.int IntKind.i64 1), Operand.tmp 14], argTypes := #[45, 3, 3] }, type := 0, pos := "write.go:47", after := #[{ on := 0, ground := Ground.data }, { on := 2, ground := Ground.data }, { on := 2, ground := Ground.chain }], guard := none }) rfl (fun K hK => ?_) AllReadyH.nil
      go_simp
      go_at_call 33
      refine (whole_w B q X 1 1 _ HW1.out (by omega) (by omega) (by omega) (by omega) (by decide)).mono ?_
      rintro e v2 ⟨rfl, a2, k2⟩
      have HP2 := hide (k2.blk HP1.out (by decide) (by decide))
      have HD2 := hide (k2.blk HD1.out (by decide) (by decide))
      have HX2 := hide (k2.blk HX1.out (by decide) (by decide))
      have HW2 := hide a2
      have HK2 := hide k2
      have hSnew := And.intro (blk1_cells HP2.out).1 (And.intro (blk3v HX2.out).1 (And.intro (blk3v HX2.out).2.1 (blk3v HX2.out).2.2))
      clear a2 k2
      go_wp2_with fail
      refine hK.out _ _ hSnew (fun hHeld3 => ?_)
      clear hK K hSnew
      clear hHeld
      have hHeld := hHeld3
      clear hHeld3
      try simp only [Act.put, List.setIfInBounds_toArray, List.set_cons_zero, List.set_cons_succ]
      refine wpAnyH_done (by kernel_rfl) ?_ _
      gi_wp2_with (first
        | (gi_at_call 33; refine CallsIn.mono (CallsIn.inRound l (callsIn_wide.2 (whole_w B q (X ++ numL 1 1) 4 (ln : Int) _ HW2.out (by rw [List.length_append, numL_length]; omega) (by omega) (by omega) (by omega) (by show (ln : Int) < 4294967296; omega)))) ?_; rintro e v3 ⟨rfl, a3, k3⟩
           have HP3 := hide (k3.blk HP2.out (by decide) (by decide))
           have HD3 := hide (k3.blk HD2.out (by decide) (by decide))
           have HX3 := hide (k3.blk HX2.out (by decide) (by decide))
           have HW3 := hide a3
           have HK3 := hide ((HK1.out.trans HK2.out).trans k3)
           have HKW3 := hide (HK0W.out.trans HK3.out)
           clear a3 k3))
      obtain ⟨X3, hX3⟩ : ∃ X3, X ++ numL 1 1 ++ numL 4 (ln : Int) = X3 := ⟨_, rfl⟩
      have hX3l : X3.length ≤ 90000000000000 ∧ 1 ≤ X3.length := by rw [← hX3, List.length_append, List.length_append, numL_length, numL_length]; omega
      rw [hX3] at HW3
      obtain ⟨g3, c3, hq3, ho3, hBq, hby3⟩ := HW3.out
      obtain ⟨m3, hm3⟩ : ∃ m3, X3.length = m3 := ⟨_, rfl⟩
      rw [hm3] at hq3 ho3 hX3l
      obtain ⟨hX3a, hX3b⟩ := hX3l
      have HQ3 := hide hq3
      have HM3 := hide hm3
      have HBY3 := hide hby3
      have HXE := hide hX3
      have HO3d : Hid (Own v3.drew B g3 m3 c3 X3) := ho3.below (Below.refl _ _).drew
      have HQ3d : Hid (v3.drew.heap[q]? = some (.cells #[.slice (some ⟨g3, 0, none⟩) m3 c3] 47 (0, 0))) := hq3
      have HP3d : Hid (v3.drew.heap[P1]? = some (.cells #[.pointer (some ⟨q, 0, none⟩)] 45 (0, 0))) := HP3.out
      have HD3d : Hid (v3.drew.heap[D1]? = some (.cells #[.slice (some ⟨bk, off, none⟩) n c] 25 (0, 0))) := HD3.out
      have HX3d : Hid (v3.drew.heap[p]? = some (.cells #[.int .i64 (ps : Int), .int .i64 (ln : Int), .slice (some ⟨bk, off + ps, none⟩) ln (c - ps)] 94 (0, 0))) := HX3.out
      obtain ⟨q0, q1⟩ := blk1_cells HQ3d.out
      have HRV : Hid (RV v3.drew (some ⟨bk, off + ps, none⟩) ln 1 (((zs.drop ps).take ln).map (Value.int .u8))) := by
        have h9 : Reads v3.drew (some ⟨bk, off + ps, none⟩) ln ((zs.drop ps).take ln) := ((HR.out.low (B := B) (fun x hx => by cases hx; exact hbk) (HKW3.out.bel.drew)).drop ps (by omega)).front ln (by omega)
        exact ⟨(by rw [List.length_map, h9.1, Nat.mul_one]), (fun h => by cases h), fun x hx j u hu => h9.news' x hx j u hu⟩
      obtain ⟨i0, hi0, hz0, hz1, hz2⟩ := info_parts info5
      clear hq3 ho3 hm3 hby3 hX3
      refine wpIn_region_round (S := (fun y : World => y.cell? ⟨P1, 0, none⟩ = some (.pointer (some ⟨q, 0, none⟩)) ∧ y.cell? ⟨p, 0, none⟩ = some (.int .i64 (ps : Int)) ∧ y.cell? ⟨p, 1, none⟩ = some (.int .i64 (ln : Int)) ∧ y.cell? ⟨p, 2, none⟩ = some (.slice (some ⟨bk, off + ps, none⟩) ln (c - ps)))) (by kernel_rfl) (by kernel_rfl) (fun h => by obtain ⟨_, _, h⟩ := h; exact h) (⟨(blk1_cells HP3.out).1, (blk3v HX3.out).1, (blk3v HX3.out).2.1, (blk3v HX3.out).2.2⟩) (fun hHeld => ?_)
      refine wpAnyH_take (i := 0) (oi := { dst := some 20, op := Op.load 45 (Operand.tmp 2), type := 45, pos := "write.go:49", after := #[], guard := none }) (v := ?v0g) rfl (by kernel_rfl) (by kernel_rfl) (by kernel_rfl) (fun _ _ _ h => h) (Or.inl ⟨by rfl, ?y0g⟩) (by assumption) ?r0g
      case y0g => (intro x hx; (try dsimp only at hx); go_simp; try with_reducible rfl)
      try simp only [Act.put, List.setIfInBounds_toArray, List.set_cons_zero, List.set_cons_succ]
      refine wpAnyH_take (i := 1) (oi := { dst := some 21, op := Op.load 45 (Operand.tmp 2), type := 45, pos := "write.go:49", after := #[], guard := none }) (v := ?v1g) rfl (by kernel_rfl) (by kernel_rfl) (by kernel_rfl) (fun _ _ _ h => h) (Or.inl ⟨by rfl, ?y1g⟩) (by assumption) ?r1g
      case y1g => (intro x hx; (try dsimp only at hx); go_simp; try with_reducible rfl)
      try simp only [Act.put, List.setIfInBounds_toArray, List.set_cons_zero, List.set_cons_succ]
      refine wpAnyH_take (i := 2) (oi := { dst := some 22, op := Op.nilCheck (Operand.tmp 21), type := 0, pos := "write.go:49", after := #[{ on := 1, ground := Ground.data }], guard := none }) (v := ?v2g) rfl (by kernel_rfl) (by kernel_rfl) (by kernel_rfl) (fun _ _ _ h => h) (Or.inl ⟨by rfl, ?y2g⟩) (by assumption) ?r2g
      case y2g => (intro x hx; (try dsimp only at hx); go_simp; try with_reducible rfl)
      try simp only [Act.put, List.setIfInBounds_toArray, List.set_cons_zero, List.set_cons_succ]
      refine wpAnyH_take (i := 3) (oi := { dst := some 23, op := Op.fieldAddr 47 (Operand.tmp 22) 0, type := 0, pos := "write.go:49", after := #[{ on := 2, ground := Ground.data }], guard := none }) (v := ?v3g) rfl (by kernel_rfl) (by kernel_rfl) (by kernel_rfl) (fun _ _ _ h => h) (Or.inl ⟨by rfl, ?y3g⟩) (by assumption) ?r3g
      case y3g => (intro x hx; (try dsimp only at hx); go_simp; try with_reducible rfl)
      try simp only [Act.put, List.setIfInBounds_toArray, List.set_cons_zero, List.set_cons_succ]
      refine wpAnyH_take (i := 5) (oi := { dst := some 25, op := Op.fieldAddr 94 (Operand.tmp 4) 2, type := 0, pos := "write.go:49", after := #[], guard := none }) (v := ?v5g) rfl (by kernel_rfl) (by kernel_rfl) (by kernel_rfl) (fun _ _ _ h => h) (Or.inl ⟨by rfl, ?y5g⟩) (by assumption) ?r5g
      case y5g => (intro x hx; (try dsimp only at hx); go_simp; try with_reducible rfl)
      try simp only [Act.put, List.setIfInBounds_toArray, List.set_cons_zero, List.set_cons_succ]
      refine wpAnyH_take (i := 6) (oi := { dst := some 26, op := Op.load 25 (Operand.tmp 25), type := 25, pos := "write.go:49", after := #[{ on := 5, ground := Ground.data }], guard := none }) (v := ?v6g) rfl (by kernel_rfl) (by kernel_rfl) (by kernel_rfl) (fun _ _ _ h => h) (Or.inl ⟨by rfl, ?y6g⟩) (by assumption) ?r6g
      case y6g => (intro x hx; (try dsimp only at hx); go_simp; try with_reducible rfl)
      try simp only [Act.put, List.setIfInBounds_toArray, List.set_cons_zero, List.set_cons_succ]
      refine wpAnyH_ready (rs := [4]) (by kernel_rfl) (by simp) ?_
      refine AllReadyH.cons (o := { dst := some 24, op := Op.load 25 (Operand.tmp 23), type := 25, pos := "write.go:49", after := #[{ on := 3, ground := Ground.data }], guard := none }) rfl (fun K hK => ?_) AllReadyH.nil
      go_simp
      go_wp2_with fail
      refine hK.out _ _ hHeld (fun hHeld4 => ?_)
      clear hK K
      clear hHeld4
      try simp only [Act.put, List.setIfInBounds_toArray, List.set_cons_zero, List.set_cons_succ]
      refine wpAnyH_ready (rs := [7]) (by kernel_rfl) (by simp) ?_
      refine AllReadyH.cons (o := { dst := some 27, op := Op.call { callee := Callee.builtin Builtin.append, args := #[Operand.tmp 24, Operand.tmp 26], argTypes := #[25, 25] }, type := 25, pos := "write.go:49", after := #[{ on := 4, ground := Ground.data }, { on := 6, ground := Ground.data }], guard := none }) rfl (fun K hK => ?_) AllReadyH.nil
      refine step_append_src (by rfl) (.tmp 24) (.tmp 26) 25 (by rfl) B 5 i0 _ 1 1 Tryz.underlying25 hi0 hz0 hz1 hz2 rfl (by decide) (.slice (some ⟨g3, 0, none⟩) m3 c3) m3 (X3.map (Value.int .u8)) (by rfl) HO3d.out (some ⟨bk, off + ps, none⟩) ln (c - ps) (((zs.drop ps).take ln).map (Value.int .u8)) (by rfl) HRV.out (ints_oneCell _ _) (by simp only [maxLen]; omega) (by omega) (Nat.le_trans hBw HKW3.out.bel.size) ?_
      intro v7 u7 own7 grow7
      have grow7 : v3.drew.grownBy u7 (some g3) := grow7
      rw [← List.map_append] at own7
      obtain ⟨g7, c7, rfl, _⟩ := own_shape own7 (by omega)
      have HO7 : Hid (Own u7 B g7 (m3 + ln) c7 (X3 ++ (zs.drop ps).take ln)) := own7
      have hk7 : Kw B v3.drew u7 := Kw.of_own HO3d.out (Nat.le_trans hBw HKW3.out.bel.size) grow7
      have HP7 := hide (hk7.blk HP3d.out (by decide) (by decide))
      have HD7 := hide (hk7.blk HD3d.out (by decide) (by decide))
      have HX7 := hide (hk7.blk HX3d.out (by decide) (by decide))
      have HQ7 : Hid (u7.heap[q]? = some (.cells #[.slice (some ⟨g3, 0, none⟩) m3 c3] 47 (0, 0))) := (grow7.block q (Array.getElem?_eq_some_iff.1 HQ3d.out).1 (fun e => (Own.ne HO3d.out HQ3d.out (by decide)) (by cases e; rfl))).trans HQ3d.out
      have HK7 := hide hk7
      clear hk7 own7 grow7
      have hSnew := And.intro (blk1_cells HP7.out).1 (And.intro (blk3v HX7.out).1 (And.intro (blk3v HX7.out).2.1 (blk3v HX7.out).2.2))
      refine hK.out _ _ hSnew (fun hHeld7 => ?_)
      clear hK K hSnew
      clear hHeld
      have hHeld := hHeld7
      clear hHeld7
      try simp only [Act.put, List.setIfInBounds_toArray, List.set_cons_zero, List.set_cons_succ]
      obtain ⟨e7, f7⟩ := blk1_cells HQ7.out
      refine wpAnyH_take (i := 8) (oi := { dst := some 28, op := Op.nilCheck (Operand.tmp 20), type := 0, pos := "write.go:49", after := #[{ on := 0, ground := Ground.data }, { on := 0, ground := Ground.phase }, { on := 1, ground := Ground.phase }, { on := 2, ground := Ground.phase }, { on := 3, ground := Ground.phase }, { on := 4, ground := Ground.phase }, { on := 5, ground := Ground.phase }, { on := 6, ground := Ground.phase }, { on := 7, ground := Ground.phase }], guard := none }) (v := ?v8g) rfl (by kernel_rfl) (by kernel_rfl) (by kernel_rfl) (fun _ _ _ h => h) (Or.inl ⟨by rfl, ?y8g⟩) (by assumption) ?r8g
      case y8g => (intro x hx; (try dsimp only at hx); go_simp; try with_reducible rfl)
      try simp only [Act.put, List.setIfInBounds_toArray, List.set_cons_zero, List.set_cons_succ]
      refine wpAnyH_take (i := 9) (oi := { dst := some 29, op := Op.fieldAddr 47 (Operand.tmp 28) 0, type := 0, pos := "write.go:49", after := #[{ on := 8, ground := Ground.data }, { on := 0, ground := Ground.phase }, { on := 1, ground := Ground.phase }, { on := 2, ground := Ground.phase }, { on := 3, ground := Ground.phase }, { on := 4, ground := Ground.phase }, { on := 5, ground := Ground.phase }, { on := 6, ground := Ground.phase }, { on := 7, ground := Ground.phase }], guard := none }) (v := ?v9g) rfl (by kernel_rfl) (by kernel_rfl) (by kernel_rfl) (fun _ _ _ h => h) (Or.inl ⟨by rfl, ?y9g⟩) (by assumption) ?r9g
      case y9g => (intro x hx; (try dsimp only at hx); go_simp; try with_reducible rfl)
      try simp only [Act.put, List.setIfInBounds_toArray, List.set_cons_zero, List.set_cons_succ]
      refine wpAnyH_ready (rs := [10]) (by kernel_rfl) (by simp) ?_
      refine AllReadyH.cons (o := { dst := none, op := Op.store 25 (Operand.tmp 29) (Operand.tmp 27), type := 0, pos := "write.go:49", after := #[{ on := 9, ground := Ground.data }, { on := 7, ground := Ground.data }, { on := 7, ground := Ground.chain }, { on := 0, ground := Ground.phase }, { on := 1, ground := Ground.phase }, { on := 2, ground := Ground.phase }, { on := 3, ground := Ground.phase }, { on := 4, ground := Ground.phase }, { on := 5, ground := Ground.phase }, { on := 6, ground := Ground.phase }, { on := 7, ground := Ground.phase }], guard := none }) rfl (fun K hK => ?_) AllReadyH.nil
      go_simp
      go_wp2_with fail
      have hg8 := grownBy_setCell' u7 q (.slice (some ⟨g7, 0, none⟩) (m3 + ln) c7)
      have HK8 := hide (Kw.of_box HQ7.out hBq (Nat.le_trans hBw (Nat.le_trans HKW3.out.bel.size HK7.out.bel.size)) hg8)
      have HP8 := hide (HK8.out.blk HP7.out (by decide) (by decide))
      have HD8 := hide (HK8.out.blk HD7.out (by decide) (by decide))
      have HX8 := hide (HK8.out.blk HX7.out (by decide) (by decide))
      have HQ8 := hide (blk1_0 HQ7.out (.slice (some ⟨g7, 0, none⟩) (m3 + ln) c7))
      have HO8 := hide (Own.apart HO7.out hg8 (Own.ne HO7.out HQ7.out (by decide)).symm)
      have hSnew := And.intro (blk1_cells HP8.out).1 (And.intro (blk3v HX8.out).1 (And.intro (blk3v HX8.out).2.1 (blk3v HX8.out).2.2))
      clear hg8
      refine hK.out _ _ hSnew (fun hHeld10 => ?_)
      clear hK K hSnew
      clear hHeld
      have hHeld := hHeld10
      clear hHeld10
      try simp only [Act.put, List.setIfInBounds_toArray, List.set_cons_zero, List.set_cons_succ]
      refine wpAnyH_done (by kernel_rfl) ?_ _
      have hlen8 : (X3 ++ (zs.drop ps).take ln).length = m3 + ln := by rw [List.length_append, HM3.out, List.length_take, List.length_drop]; have := HLZ.out; omega
      refine ⟨KeepsOthers.from ((((HK3.out.others).trans (KeepsOthers.drew _)).trans HK7.out.others).trans HK8.out.others) _, ⟨?_, fun o ho => by rw [HD0.out] at ho; cases ho; exact HD8.out⟩, ?_, HP8.out, HD8.out, ((HKW3.out.trans (Kw.of_below (Nat.le_trans hBw HKW3.out.bel.size) (Below.refl _ _).drew)).trans HK7.out).trans HK8.out⟩
      · exact ((HK3.out.bel.trans ((Below.refl _ _).drew)).trans HK7.out.bel).trans HK8.out.bel
      · rw [List.flatMap_append, ← List.append_assoc]
        have e8 : (L1 ++ pre.flatMap (fun i => encR zs (L[i.val]'(by rw [hLN]; exact i.isLt)))) ++ ([x].flatMap (fun i => encR zs (L[i.val]'(by rw [hLN]; exact i.isLt)))) = X3 ++ (zs.drop ps).take ln := by
          rw [List.flatMap_singleton, HSS.out, HXX.out, ← HXE.out]
          simp [encR, List.append_assoc]
        rw [e8]
        exact ⟨g7, c7, by rw [hlen8]; exact HQ8.out, by rw [hlen8]; exact HO8.out, hBq, (fun y hy => by rcases List.mem_append.1 hy with h | h; exact HBY3.out y h; exact HR.out.2.1 y (List.mem_of_mem_drop (List.mem_of_mem_take h)))⟩
  case done =>
    rintro D ys W hD rfl ⟨hi1, hi2, hi3, hi4⟩ hK
    have e9 : L1 ++ (List.finRange N).flatMap (fun i => encR zs (L[i.val]'(by rw [hLN]; exact i.isLt))) = laid ++ encD zs := by
      rw [fin_flat L N hLN, ← HL1.out]
      unfold encD
      rw [HLC.out, HLZ.out, List.append_assoc]
    rw [e9] at hi1
    have HI1 := hide hi1
    have HI4 := hide hi4
    have HKD := hide hK
    clear hi1 hi2 hi3 hi4 hK e9
    go_wp2
    refine ⟨by simp, .inl ⟨_, _, rfl, run_takeDeferred HKD.out, ?_⟩⟩
    refine ⟨.tuple #[], by simp [results, Tryz.results41, go_sem], rfl, ?_, ?_⟩
    · exact OwnFrom.putObj (Go.Own.from (wrAt_own (β := Unit) B q (fun _ => laid ++ encD zs)) U.heap.size) (s := ()) _ HI1.out hD HKD.out rfl
    · exact OwnFrom.putObj (ownFrom_kw (β := Unit) hBw (Nat.le_trans (Nat.le_of_eq hP1) (Nat.le_of_lt hwU))) (s := ()) _ HI4.out hD HKD.out rfl
  case stop =>
    rintro D c pre W _ _ h _
    exact h.elim
end Go.Proofs.YtdiifegljonojaaGreatDoor
