/-
  SEAT Ytjginocbbnmgaaa: TnodeCut, its walk.
-/
import Derived.Test.YtjginocbbnmgaaaCuP
namespace Go.Proofs.Ytjginocbbnmgaaa
open Go.RowKit
set_option linter.unusedVariables false

/-- Two trees beside one another. -/
structure Twain (w u : World) (gt gu : Nat) (M M' : Mp) : Prop where
  t : ∃ h, Tree u gt h M
  s : ∃ h, Tree u gu h M'
  bel : Below w.heap.size w u
  lowT : w.heap.size ≤ gt
  lowU : w.heap.size ≤ gu
  ne : gt ≠ gu
theorem Twain.below {w u v : World} {gt gu : Nat} {M M' : Mp} (h : Twain w u gt gu M M') (hb : Below u.heap.size u v) : Twain w v gt gu M M' := by
  obtain ⟨ht, h1⟩ := h.t
  obtain ⟨hu, h2⟩ := h.s
  exact ⟨⟨ht, h1.below hb⟩, ⟨hu, h2.below hb⟩, h.bel.trans (hb.mono h.bel.size), h.lowT, h.lowU, h.ne⟩
theorem Twain.left {w u v : World} {gt gu h' : Nat} {M M' M2 : Mp} (h : Twain w u gt gu M M') (h1 : Tree v gt h' M2) (hg : u.grownBy v (some gt)) : Twain w v gt gu M2 M' := by
  obtain ⟨ht, ht1⟩ := h.t
  obtain ⟨hu, h2⟩ := h.s
  obtain ⟨p, q, r, hb⟩ := ht1.box
  exact ⟨⟨h', h1⟩, ⟨hu, h2.other hb (fun e => h.ne e.symm) hg⟩, keep_new h.bel h.lowT hg, h.lowT, h.lowU, h.ne⟩
theorem Twain.right {w u v : World} {gt gu h' : Nat} {M M' M2 : Mp} (h : Twain w u gt gu M M') (h1 : Tree v gu h' M2) (hg : u.grownBy v (some gu)) : Twain w v gt gu M M2 := by
  obtain ⟨ht, ht1⟩ := h.t
  obtain ⟨hu, h2⟩ := h.s
  obtain ⟨p, q, r, hb⟩ := h2.box
  exact ⟨⟨ht, ht1.other hb h.ne hg⟩, ⟨h', h1⟩, keep_new h.bel h.lowU hg, h.lowT, h.lowU, h.ne⟩
theorem del_upd (M : Mp) (k : Nat) (v : Int) (h : M k = none) : del (upd M k v) (k : Int) = M := by
  funext j
  unfold del upd
  by_cases e : j = k
  · subst e
    rw [if_pos rfl, h]
  · rw [if_neg (by omega), if_neg e]
theorem cut_again (M : Mp) (f : Int) : cnt (hit (cutFrom M f) (max f 0) 1048576) 1048576 = 0 := cnt_none (fun k _ => by
  unfold hit cutFrom cutM
  by_cases h : max f 0 ≤ (k : Int) ∧ (k : Int) < 1048576
  · rw [if_pos h]; simp
  · rw [decide_eq_false h]; rfl)
set_option maxHeartbeats 16000000 in
set_option maxRecDepth 100000 in
theorem cut_walk (a : Option Addr) (len cap : Nat) (ks : List Int) (fr : Int) (a2 : Option Addr) (len2 cap2 : Nat) (ms : List Int) (w : World) (hr : ReadsI w a len ks) (hs : len * 8 ≤ 140737488351232) (hf : Wf fr) (hr2 : ReadsI w a2 len2 ms) (hs2 : len2 * 8 ≤ 140737488351232) :
    Calls Try.prog 4 #[.slice a len cap, .int .i64 fr, .slice a2 len2 cap2] w fun e w' => e = .returned (.bool true) ∧ Below w.heap.size w w' := by
  have HR : Hid (ReadsI w a len ks) := hr
  have HR2 : Hid (ReadsI w a2 len2 ms) := hr2
  have HHS : Hid _ := And.intro hs hs2
  have HF : Hid _ := hf
  clear hr hs hf hr2 hs2
  go_enter Try.func4, Try.ntmps4
  go_upto_region 3 with (first | (go_at_call 9; refine (heads_any _).mono ?_; rintro e u0 ⟨rfl, b0⟩; have B0 : Hid (Below w.heap.size w u0) := b0; clear b0))
  obtain ⟨M, hM⟩ : ∃ M, fillM ks len = M := ⟨_, rfl⟩
  obtain ⟨gt, hgt⟩ : ∃ gt, u0.heap.size = gt := ⟨_, rfl⟩
  have HFI : Hid _ := filled_any a len cap ks u0 (ReadsI.below HR.out B0.out) HHS.out.1
  rw [hM, hgt] at HFI
  have HGT : Hid _ := hgt
  go_upto_region 4 with (first | (go_at_call 10; refine Calls.mono HFI.out ?_; rintro e u1 ⟨h1, rfl, t1, b1⟩; rw [← HGT.out] at b1; have T1 : Hid (Tree u1 gt h1 M) := t1; have B1 : Hid (Below w.heap.size w u1) := B0.out.trans (b1.mono B0.out.size); clear t1 b1))
  obtain ⟨gu, hgu⟩ : ∃ gu, u1.heap.size = gu := ⟨_, rfl⟩
  have HFJ : Hid _ := filled_any a len cap ks u1 (ReadsI.below HR.out B1.out) HHS.out.1
  rw [hM, hgu] at HFJ
  have HGU : Hid _ := hgu
  clear hM hgt hgu HFI
  go_upto_region 5 with (first | (go_at_call 10; refine Calls.mono HFJ.out ?_; rintro e u2 ⟨h2, rfl, t2, b2⟩; rw [← HGU.out] at b2; have TW2 : Hid (Twain w u2 gt gu M M) := (by obtain ⟨_, _, _, hbx⟩ := T1.out.box; have := lt_of_block hbx; have := HGU.out; exact ⟨⟨h1, T1.out.below b2⟩, ⟨h2, t2⟩, B1.out.trans (b2.mono B1.out.size), by rw [← HGT.out]; exact B0.out.size, by rw [← HGU.out]; exact B1.out.size, by omega⟩); clear t2 b2))
  clear HFJ T1 B1
  obtain ⟨A, hA⟩ : ∃ A, allOf M = A := ⟨_, rfl⟩
  obtain ⟨N, hN⟩ : ∃ N, A.length = N := ⟨_, rfl⟩
  have hN6 : N ≤ 1048576 := by rw [← hN, ← hA, all_count]; exact num_le M
  have HA : Hid (allOf M = A) := hA
  have HN : Hid (A.length = N) := hN
  have HN6 : Hid _ := hN6
  obtain ⟨h3, hT3⟩ := TW2.out.t
  have HP0 : Hid _ := pairs_t gt h3 M u2 hT3
  clear hA hN hN6 hT3
  go_upto_region 6 with (first | (go_at_call 12; refine Calls.mono HP0.out ?_; rintro e u3 ⟨vl, rfl, r3, t3, b3⟩; rw [HA.out] at r3; obtain ⟨al, cl, rfl⟩ := Rd.any r3; rw [HN.out] at r3 ⊢; have R3 : Hid (Rd u3 (.slice al N cl) A) := r3; have TW3 : Hid (Twain w u3 gt gu M M) := TW2.out.below b3; clear r3 t3 b3))
  clear HP0
  go_wp2_with fail
  go_loopw [12, 13] (fun s12 s13 wr => ∃ i : Nat, i ≤ N ∧ s13 = .int .i64 (i : Int) ∧ s12 = .int .i64 ((dropC A fr i : Nat) : Int) ∧ Hid (Twain w wr gt gu M (dropN A fr M i)) ∧ Hid (Rd wr (.slice al N cl) A)) (fun _ i _ => N - (intOf i).toNat)
  case atStart => exact ⟨0, by omega, rfl, rfl, TW3, R3⟩
  case round =>
    obtain ⟨i, hi, rfl, rfl, HT, HRD⟩ := hrel
    obtain ⟨DC, hDC⟩ : ∃ DC, dropC A fr i = DC := ⟨_, rfl⟩
    have hdl : DC ≤ i := by rw [← hDC]; exact dropC_le A fr i
    rw [hDC]
    have HDC : Hid _ := And.intro hDC hdl
    clear hDC hdl
    by_cases hc : i < N
    · have dc : (i : Int) < (N : Int) := by omega
      have hlt : i < A.length := by rw [HN.out]; exact hc
      obtain ⟨⟨pk, pv⟩, hp⟩ : ∃ p, A[i]? = some p := ⟨A[i], List.getElem?_eq_getElem hlt⟩
      obtain ⟨kk, hK, hpk, hKv⟩ := all_mem (M := M) (by rw [HA.out]; exact hp)
      dsimp only at hpk hKv
      subst hpk
      obtain ⟨g, cl', hsl, hgl, hcells⟩ := Rd.lies HRD.out (show 0 < A.length by omega)
      have hal : al = some ⟨g, 0, none⟩ := by injection hsl
      subst hal
      obtain ⟨x0, _⟩ := hcells i _ hp
      dsimp only at x0
      have hgd := getD_of hp
      have wi : IntKind.i64.wrap ((i : Int) + 1) = (i : Int) + 1 := by have := HN6.out; rw [IntKind.wrap_i64]; omega
      have wD : IntKind.i64.wrap ((DC : Int) + 1) = (DC : Int) + 1 := by have := HN6.out; have := HDC.out.2; rw [IntKind.wrap_i64]; omega
      by_cases hge : fr ≤ (kk : Int)
      · have hnx : dropN A fr M (i + 1) = del (dropN A fr M i) (kk : Int) := by
          simp only [dropN]
          rw [hgd, if_pos hge]
        have hcx : dropC A fr (i + 1) = DC + 1 := by
          simp only [dropC]
          rw [hgd, if_pos hge, HDC.out.1]
        have hsome : (at1 (dropN A fr M i) (kk : Int)).isSome = true := by
          rw [at1_nat, dropN_at, if_neg, hKv]
          · rfl
          · rintro ⟨_, j, hj, hjk⟩
            have hjl : j < A.length := by omega
            have h9 := all_rise (M := M) hj (by rw [HA.out]; exact List.getElem?_eq_getElem hjl) (by rw [HA.out]; exact hp)
            rw [getD_of (List.getElem?_eq_getElem hjl)] at hjk
            dsimp only at h9
            omega
        obtain ⟨h4, hT4⟩ := HT.out.s
        have HDR : Hid _ := drop_any gu h4 (kk : Int) (dropN A fr M i) wr hT4 (by omega)
        rw [hsome, ← hnx] at HDR
        have HCX : Hid _ := hcx
        obtain ⟨p4, q4, r4, hbx⟩ := hT4.box
        have HBX : Hid _ := hbx
        clear hp hKv hcells hlt hsl hgl hK hgd hnx hcx hsome hT4 hbx
        go_wp2_with (first | (go_at_call 17; refine Calls.mono HDR.out ?_; rintro e u4 ⟨h5, rfl, t5, g5⟩; have T5 : Hid (Twain w u4 gt gu M (dropN A fr M (i + 1))) := HT.out.right t5 g5; have R5 : Hid (Rd u4 (.slice (some ⟨g, 0, none⟩) N cl) A) := Rd.grown HRD.out g5 HBX.out; clear t5 g5))
        go_roundw
        case rel => exact ⟨i + 1, by omega, by first | rfl | simp, by rw [HCX.out]; first | rfl | simp, T5, R5⟩
        case measure => (simp [intOf]; omega)
      · have hnx : dropN A fr M (i + 1) = dropN A fr M i := by
          simp only [dropN]
          rw [hgd, if_neg hge]
        have hcx : dropC A fr (i + 1) = DC := by
          simp only [dropC]
          rw [hgd, if_neg hge, HDC.out.1]
          rfl
        have HCX : Hid _ := And.intro hcx hnx
        clear hp hKv hcells hlt hsl hgl hK hgd hnx hcx
        go_wp2_with fail
        go_roundw
        case rel => exact ⟨i + 1, by omega, by first | rfl | simp, by rw [HCX.out.1], by rw [HCX.out.2]; exact HT, HRD⟩
        case measure => (simp [intOf]; omega)
    · have dc : ¬ ((i : Int) < (N : Int)) := by omega
      obtain rfl : i = N := by omega
      obtain ⟨M', hM'⟩ : ∃ M', cutFrom M fr = M' := ⟨_, rfl⟩
      obtain ⟨h4, hT4⟩ := HT.out.t
      have hdr : dropN A fr M i = M' := by
        rw [← hM', ← HN.out]
        exact drop_cut (fun k hk => hT4.out hk) HA.out fr
      have hcn : cnt (hit M (max fr 0) 1048576) 1048576 = DC := by rw [← all_dropC HA.out fr, HN.out]; exact HDC.out.1
      have HCU : Hid _ := cut_any gt h4 fr M wr hT4 HF.out
      rw [hM', hcn] at HCU
      have HTT : Hid (Twain w wr gt gu M M') := by unfold Hid; rw [← hdr]; exact HT.out
      have hag := cut_again M fr
      rw [hM'] at hag
      have HAG : Hid _ := hag
      obtain ⟨A', hA'⟩ : ∃ A', allOf M' = A' := ⟨_, rfl⟩
      obtain ⟨NM, hNM⟩ : ∃ NM, num M' = NM := ⟨_, rfl⟩
      have HA' : Hid (allOf M' = A') := hA'
      have HNM : Hid (num M' = NM) := hNM
      clear hdr hcn hT4 hag hA' hNM hM' HT HRD HDC
      go_upto_region 16 with (first
        | (go_at_call 11; refine Calls.mono HCU.out ?_; rintro e u5 ⟨h5, rfl, t5, g5⟩; have TW5 : Hid (Twain w u5 gt gu M' M') := HTT.out.left t5 g5; obtain ⟨h6, hu6⟩ := TW5.out.s; obtain rfl : h5 = h6 := Tree.same_high t5 hu6; have HL1 : Hid _ := len_t gt h5 M' u5 t5; have HL2 : Hid _ := len_t gu h5 M' u5 hu6; have HH1 : Hid _ := height_t gt h5 M' u5 t5; have HH2 : Hid _ := height_t gu h5 M' u5 hu6; have HP1 : Hid _ := pairs_t gt h5 M' u5 t5; have HU6 : Hid _ := hu6; clear t5 g5 hu6)
        | (go_at_call 14; refine Calls.mono HL1.out ?_; clear HL1; rintro e u ⟨rfl, rfl⟩; rw [HNM.out])
        | (go_at_call 14; refine Calls.mono HL2.out ?_; clear HL2; rintro e u ⟨rfl, rfl⟩; rw [HNM.out])
        | (go_at_call 13; refine Calls.mono HH1.out ?_; clear HH1; rintro e u ⟨rfl, rfl⟩)
        | (go_at_call 13; refine Calls.mono HH2.out ?_; clear HH2; rintro e u ⟨rfl, rfl⟩)
        | (go_at_call 12; refine Calls.mono HP1.out ?_; clear HP1; rintro e u6 ⟨v6, rfl, r6, t6, b6⟩; rw [HA'.out] at r6; have R6 : Hid (Rd u6 v6 A') := r6; have TW6 : Hid (Twain w u6 gt gu M' M') := TW5.out.below b6; have HP2 : Hid _ := pairs_t gu h5 M' u6 (HU6.out.below b6); clear r6 t6 b6)
        | (go_at_call 12; refine Calls.mono HP2.out ?_; clear HP2; rintro e u7 ⟨v7, rfl, r7, t7, b7⟩; rw [HA'.out] at r7; have R7 : Hid (Rd u7 v7 A') := r7; have R67 : Hid (Rd u7 v6 A') := Rd.below R6.out b7; have TW7 : Hid (Twain w u7 gt gu M' M') := TW6.out.below b7; clear r7 t7 b7)
        | (go_at_call 18; refine (same_t _ _ _ A' R67.out R7.out).mono ?_; rintro e u8 ⟨rfl, b8⟩; have TW8 : Hid (Twain w u8 gt gu M' M') := TW7.out.below b8; clear b8))
      clear HTT HCU TW5 TW6 TW7 R6 R7 R67 HU6 TW2 TW3
      go_wp2_with fail
      go_loopw [14] (fun s14 wr => ∃ j : Nat, j ≤ len2 ∧ s14 = .int .i64 (j : Int) ∧ Hid (Twain w wr gt gu M' M')) (fun j _ => len2 - (intOf j).toNat)
      case atStart => exact ⟨0, by omega, rfl, TW8⟩
      case round =>
        obtain ⟨j, hj, rfl, HT⟩ := hrel
        by_cases hc2 : j < len2
        · have dc2 : (j : Int) < (len2 : Int) := by omega
          have wj : IntKind.i64.wrap ((j : Int) + 1) = (j : Int) + 1 := by have := HHS.out.2; rw [IntKind.wrap_i64]; omega
          obtain ⟨b, off, hab, hbl, hcl⟩ := ReadsI.pos HR2.out (show 0 < len2 by omega)
          have hwf := ReadsI.wf HR2.out j
          obtain ⟨k, hk⟩ : ∃ k, ms.getD j 0 = k := ⟨_, rfl⟩
          have hcu : ∀ u, Below w.heap.size w u → u.cell? ⟨b, off + j, none⟩ = some (.int .i64 k) := fun u hu => by
            rw [← hk]
            exact (hu.cell (p := ⟨b, off + j, none⟩) hbl).trans (hcl j hc2)
          have HCU : Hid _ := hcu
          rw [hk] at hwf
          have HWF : Hid _ := hwf
          have x0 := hcu wr HT.out.bel
          obtain ⟨hg, hTg⟩ := HT.out.s
          have HGE : Hid _ := get_t gu hg k M' wr hTg
          subst hab
          clear hcu hwf hcl hbl hk hTg
          cases ht : at1 M' k with
          | some xv =>
            have HG2 : Hid (got (at1 M' k) = .tuple #[.int .i64 xv, .bool true]) := by unfold Hid; rw [ht]; rfl
            clear ht
            go_wp2_with (first | (go_at_call 19; refine Calls.mono HGE.out ?_; rintro e v6 ⟨rfl, t6, b6⟩; rw [HG2.out]; have TV : Hid (Twain w v6 gt gu M' M') := HT.out.below b6; clear t6 b6))
            go_roundw
            case rel => exact ⟨j + 1, by omega, by first | rfl | simp, TV⟩
            case measure => (simp [intOf]; omega)
          | none =>
            have HG2 : Hid (got (at1 M' k) = .tuple #[.int .i64 0, .bool false]) := by unfold Hid; rw [ht]; rfl
            by_cases hm : 0 ≤ k ∧ k ≤ 1048575
            · obtain ⟨kk, rfl⟩ := Int.eq_ofNat_of_zero_le hm.1
              rw [at1_nat] at ht
              have hk5 : kk < 1048576 := by omega
              have HKK : Hid _ := And.intro ht hk5
              clear ht hm hk5
              go_wp2_with (first
                | (go_at_call 19; refine Calls.mono HGE.out ?_; rintro e v6 ⟨rfl, t6, b6⟩; rw [HG2.out]; have TV : Hid (Twain w v6 gt gu M' M') := HT.out.below b6; obtain ⟨hv, hTv⟩ := TV.out.t; have x6 := HCU.out v6 TV.out.bel; have HPU : Hid _ := put_any gt hv kk 7 M' v6 hTv HKK.out.2; clear t6 b6 hTv x0)
                | (go_at_call 16; refine Calls.mono HPU.out ?_; rintro e v7 ⟨h7, rfl, t7, g7⟩; have TV7 : Hid (Twain w v7 gt gu (upd M' kk 7) M') := TV.out.left t7 g7; have x7 := HCU.out v7 TV7.out.bel; have HDR : Hid _ := drop_any gt h7 (kk : Int) (upd M' kk 7) v7 t7 HWF.out; rw [del_upd M' kk 7 HKK.out.1, show (at1 (upd M' kk 7) (kk : Int)).isSome = true by rw [at1_nat]; unfold upd; rw [if_pos rfl]; rfl] at HDR; clear t7 g7 x6)
                | (go_at_call 20; refine (no_any _ _).mono ?_; rintro e v9 ⟨rfl, rfl⟩)
                | (go_at_call 17; refine Calls.mono HDR.out ?_; rintro e v8 ⟨h8, rfl, t8, g8⟩; have TV8 : Hid (Twain w v8 gt gu M' M') := TV7.out.left t8 g8; clear t8 g8))
              go_roundw
              case rel => exact ⟨j + 1, by omega, by first | rfl | simp, TV8⟩
              case measure => (simp [intOf]; omega)
            · have hbad : k < 0 ∨ 1048575 < k := by omega
              have HBAD : Hid _ := hbad
              clear ht hm hbad
              go_wp2_with (first
                | (go_at_call 19; refine Calls.mono HGE.out ?_; rintro e v6 ⟨rfl, t6, b6⟩; rw [HG2.out]; have TV : Hid (Twain w v6 gt gu M' M') := HT.out.below b6; have x6 := HCU.out v6 TV.out.bel; clear t6 b6 x0)
                | (go_at_call 16; refine (put_bad gt 0 k 7 0 _ HBAD.out).mono ?_; rintro e v7 ⟨rfl, rfl⟩)
                | (go_at_call 20; refine (no_any _ _).mono ?_; rintro e v9 ⟨rfl, rfl⟩))
              go_roundw
              case rel => exact ⟨j + 1, by omega, by first | rfl | simp, TV⟩
              case measure => (simp [intOf]; omega)
        · have dc2 : ¬ ((j : Int) < (len2 : Int)) := by omega
          obtain ⟨hx, hTx⟩ := HT.out.t
          obtain ⟨hy, hTy⟩ := HT.out.s
          obtain rfl : hx = hy := Tree.same_high hTx hTy
          have HL1 : Hid _ := len_t gt hx M' wr hTx
          have HL2 : Hid _ := len_t gu hx M' wr hTy
          have HH1 : Hid _ := height_t gt hx M' wr hTx
          have HH2 : Hid _ := height_t gu hx M' wr hTy
          have HP1 : Hid _ := pairs_t gt hx M' wr hTx
          have HTX : Hid _ := And.intro hTx hTy
          clear hTx hTy
          go_wp2_with (first
            | (go_at_call 14; refine Calls.mono HL1.out ?_; clear HL1; rintro e u ⟨rfl, rfl⟩; rw [HNM.out])
            | (go_at_call 14; refine Calls.mono HL2.out ?_; clear HL2; rintro e u ⟨rfl, rfl⟩; rw [HNM.out])
            | (go_at_call 13; refine Calls.mono HH1.out ?_; clear HH1; rintro e u ⟨rfl, rfl⟩)
            | (go_at_call 13; refine Calls.mono HH2.out ?_; clear HH2; rintro e u ⟨rfl, rfl⟩)
            | (go_at_call 12; refine Calls.mono HP1.out ?_; clear HP1; rintro e z6 ⟨y6, rfl, r6, t6, b6⟩; rw [HA'.out] at r6; have R6 : Hid (Rd z6 y6 A') := r6; have TW6 : Hid (Twain w z6 gt gu M' M') := HT.out.below b6; have HP2 : Hid _ := pairs_t gu hx M' z6 (HTX.out.2.below b6); have HT6 : Hid _ := t6; clear r6 t6 b6)
            | (go_at_call 12; refine Calls.mono HP2.out ?_; clear HP2; rintro e z7 ⟨y7, rfl, r7, t7, b7⟩; rw [HA'.out] at r7; have R7 : Hid (Rd z7 y7 A') := r7; have R67 : Hid (Rd z7 y6 A') := Rd.below R6.out b7; have TW7 : Hid (Twain w z7 gt gu M' M') := TW6.out.below b7; have HT7 : Hid _ := HT6.out.below b7; clear r7 t7 b7)
            | (go_at_call 18; refine (same_t _ _ _ A' R67.out R7.out).mono ?_; rintro e z8 ⟨rfl, b8⟩; have TW9 : Hid (Twain w z8 gt gu M' M') := TW7.out.below b8; have HC9 : Hid _ := cut_any gt hx fr M' z8 (HT7.out.below b8) HF.out; rw [HAG.out] at HC9; clear b8)
            | (go_at_call 11; refine Calls.mono HC9.out ?_; rintro e z9 ⟨h9, rfl, t9, g9⟩; have TWZ : Hid (Below w.heap.size w z9) := (TW9.out.left t9 g9).bel; clear t9 g9))
          go_ret
          exact ⟨rfl, TWZ.out⟩
end Go.Proofs.Ytjginocbbnmgaaa
