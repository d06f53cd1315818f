/-
  SEAT Ytkcpfcnpniblcad: RailOwn: both rows may be laid.
-/
import Derived.Test.YtkcpfcnpniblcadOwB
namespace Go.Proofs.Ytkcpfcnpniblcad.railOwn
open Go.RowKit
set_option linter.unusedVariables false

set_option maxHeartbeats 1500000 in
set_option maxRecDepth 100000 in
theorem walkC (a0 : Option Addr) (len0 cap0 : Nat) (z0 : List Int) (a1 : Option Addr) (len1 cap1 : Nat) (z1 : List Int) (w : World) (w0 : Reads w a0 len0 z0) (w1 : Reads w a1 len1 z1) (hle0 : len0 ≤ 4095) (hle1 : len1 ≤ 4095) :
    Calls Try.prog 6 #[.slice a0 len0 cap0, .slice a1 len1 cap1] w fun e w' => e = .returned (.bool true) ∧ Below w.heap.size w w' := by
  have hl0 := w0.1
  have hl1 := w1.1
  have hr0 := w0.2.1
  have hr1 := w1.2.1
  obtain ⟨y0, hy0⟩ : ∃ y0, turnT z0 len0 = y0 := ⟨_, rfl⟩
  have hly : y0.length = len0 := by rw [← hy0, turnT_length, hl0]
  have hry : ∀ x ∈ y0, 0 ≤ x ∧ x ≤ 255 := by rw [← hy0]; exact turnT_range z0 _ hr0
  obtain ⟨L0, hL0⟩ : ∃ L, layL (z0 ++ [colF z0]) = L := ⟨_, rfl⟩
  obtain ⟨L1, hL1⟩ : ∃ L, layL (z1 ++ [colF z1]) = L := ⟨_, rfl⟩
  obtain ⟨Lt, hLt⟩ : ∃ L, layL (y0 ++ [colF y0]) = L := ⟨_, rfl⟩
  have hlL0 : L0.length = 2 * len0 + 2 := by rw [← hL0, layL_length]; simp; omega
  have hlL1 : L1.length = 2 * len1 + 2 := by rw [← hL1, layL_length]; simp; omega
  have hlLt : Lt.length = 2 * len0 + 2 := by rw [← hLt, layL_length]; simp; omega
  have hrL0 : ∀ x ∈ L0, 0 ≤ x ∧ x ≤ 255 := by rw [← hL0]; exact layL_range _
  have hrL1 : ∀ x ∈ L1, 0 ≤ x ∧ x ≤ 255 := by rw [← hL1]; exact layL_range _
  have hrLt : ∀ x ∈ Lt, 0 ≤ x ∧ x ≤ 255 := by rw [← hLt]; exact layL_range _
  have HL0 : Hid (layL (z0 ++ [colF z0]) = L0) := hL0
  have HL1 : Hid (layL (z1 ++ [colF z1]) = L1) := hL1
  have HLT : Hid (layL (y0 ++ [colF y0]) = Lt) := hLt
  have HY0 : Hid (turnT z0 len0 = y0) := hy0
  have HF : Hid ((z0.length = len0 ∧ z1.length = len1 ∧ y0.length = len0 ∧ L0.length = 2 * len0 + 2 ∧ L1.length = 2 * len1 + 2 ∧ Lt.length = 2 * len0 + 2) ∧ (∀ x ∈ z0, 0 ≤ x ∧ x ≤ 255) ∧ (∀ x ∈ z1, 0 ≤ x ∧ x ≤ 255) ∧ (∀ x ∈ y0, 0 ≤ x ∧ x ≤ 255) ∧ (∀ x ∈ L0, 0 ≤ x ∧ x ≤ 255) ∧ (∀ x ∈ L1, 0 ≤ x ∧ x ≤ 255) ∧ (∀ x ∈ Lt, 0 ≤ x ∧ x ≤ 255)) := ⟨⟨hl0, hl1, hly, hlL0, hlL1, hlLt⟩, hr0, hr1, hry, hrL0, hrL1, hrLt⟩
  have dz0 : decide (z0 = z0) = true := by simp
  have dz1 : decide (z1 = z1) = true := by simp
  have dy0 : decide (y0 = y0) = true := by simp
  have dL0 : decide (L0 = L0) = true := by simp
  clear hl0 hl1 hr0 hr1 hy0 hly hry hL0 hL1 hLt hlL0 hlL1 hlLt hrL0 hrL1 hrLt
  go_enter Try.func6, Try.ntmps6
  go_wp2_with (first
    | (go_at_call 8; refine (heads_any _).mono ?_; rintro e u1 ⟨rfl, bel1⟩; have lv1 : Live u1 w.heap.size [] := ⟨by simp, List.Pairwise.nil⟩; have rA := (w0.below bel1).below ((Below.refl u1.heap.size u1).alloc (Nat.le_refl _) (.cells #[] 5)))
    | (at_builtin; refine wpList_append_reads rfl (.tmp 32) (.tmp 33) rfl u1.heap.size _ _ [] rfl (made0 u1) _ _ _ z0 rfl rA (by omega) (by simp) ?_; intro v2 w2 hown2 hgrow2; simp only [Nat.zero_add, List.nil_append] at hown2; obtain ⟨ax, cx, hvx⟩ := own_form hown2; subst hvx; have b12 : Below u1.heap.size u1 w2 := (((Below.refl _ _).alloc (Nat.le_refl _) _).grown hgrow2 (by simp) (fun k hk => ((made0 u1).lt k hk).1)); have bw2 := bel1.trans (b12.mono bel1.size); have lv2 := lv1.add b12 bel1.size HF.out.1.1 hown2; have rB := (w1.below bw2).below ((Below.refl w2.heap.size w2).alloc (Nat.le_refl _) (.cells #[] 5)); clear rA hown2 hgrow2 lv1 b12 bel1)
    | (at_builtin; refine wpList_append_reads rfl (.tmp 35) (.tmp 36) rfl w2.heap.size _ _ [] rfl (made0 w2) _ _ _ z1 rfl rB (by omega) (by simp) ?_; intro v3 w3 hown3 hgrow3; simp only [Nat.zero_add, List.nil_append] at hown3; obtain ⟨ay, cy, hvy⟩ := own_form hown3; subst hvy; have b23 : Below w2.heap.size w2 w3 := (((Below.refl _ _).alloc (Nat.le_refl _) _).grown hgrow3 (by simp) (fun k hk => ((made0 w2).lt k hk).1)); have bw3 := bw2.trans (b23.mono bw2.size); have lv3 := lv2.add b23 bw2.size HF.out.1.2.1 hown3; have rx3 : Reads w3 ax len0 z0 := lv3.reads (c := cx) (by simp) HF.out.1.1 HF.out.2.1; clear rB hown3 hgrow3 lv2 b23 bw2)
    | (go_at_call 9; refine (lay_row2 z0 _ _ _ _ ?_ ?_ ?_).mono ?_; (with_reducible exact rx3); exact HF.out.1.1; exact hle0; rintro e u4 ⟨g1, c1, rfl, o4, b4⟩; rw [HL0.out] at o4; have lv4 := lv3.add b4 bw3.size HF.out.1.2.2.2.1 o4; have bw4 := bw3.trans (b4.mono bw3.size); have ry4 : Reads u4 ay len1 z1 := lv4.reads (c := cy) (by simp) HF.out.1.2.1 HF.out.2.2.1; clear lv3 o4 b4 bw3 rx3)
    | (go_at_call 9; refine (lay_row2 z1 _ _ _ _ ?_ ?_ ?_).mono ?_; (with_reducible exact ry4); exact HF.out.1.2.1; exact hle1; rintro e u5 ⟨g2, c2, rfl, o5, b5⟩; rw [HL1.out] at o5; have lv5 := lv4.add b5 bw4.size HF.out.1.2.2.2.2.1 o5; have bw5 := bw4.trans (b5.mono bw4.size); have rx5 : Reads u5 ax len0 z0 := lv5.reads (c := cx) (by simp) HF.out.1.1 HF.out.2.1; clear lv4 o5 b5 bw4 ry4)
    | (go_at_call 9; refine (lay_row2 z0 _ _ _ _ ?_ ?_ ?_).mono ?_; (with_reducible exact rx5); exact HF.out.1.1; exact hle0; rintro e u6 ⟨g3, c3, rfl, o6, b6⟩; rw [HL0.out] at o6; have lv6 := lv5.add b6 bw5.size HF.out.1.2.2.2.1 o6; have bw6 := bw5.trans (b6.mono bw5.size); have rone6 : Reads u6 (some ⟨g1, 0, none⟩) (2 * len0 + 2) L0 := lv6.reads (c := c1) (by simp) HF.out.1.2.2.2.1 HF.out.2.2.2.2.1; have rthr6 : Reads u6 (some ⟨g3, 0, none⟩) (2 * len0 + 2) L0 := lv6.reads (c := c3) (by simp) HF.out.1.2.2.2.1 HF.out.2.2.2.2.1; clear lv5 o6 b6 bw5 rx5)
    | (go_at_call 10; refine (no_any _ _).mono ?_; rintro e u ⟨rfl, rfl⟩)
    | (go_at_call 12; refine (same_any _ _ _ _ _ L0 L0 _ ?_ ?_ ?_).mono ?_; omega; (with_reducible exact rone6); exact rthr6; rintro e u7 ⟨rfl, k7, hu7⟩; have lv7 := lv6.drewN k7; have bw7 := below_drewN bw6 k7; rw [← hu7] at lv7 bw7; have rC : Reads (u7.alloc (.cells #[] 5)) (some ⟨g1, 0, none⟩) (2 * len0 + 2) L0 := (lv7.reads (c := c1) (by simp) HF.out.1.2.2.2.1 HF.out.2.2.2.2.1).below ((Below.refl u7.heap.size u7).alloc (Nat.le_refl _) (.cells #[] 5)); clear hu7 lv6 bw6 rone6 rthr6)
    | (at_builtin; refine wpList_append_reads rfl (.tmp 72) (.tmp 73) rfl u7.heap.size _ _ [] rfl (made0 u7) _ _ _ L0 rfl rC (by omega) (by simp) ?_; intro v8 w8 hown8 hgrow8; simp only [Nat.zero_add, List.nil_append] at hown8; obtain ⟨gr0, cr0, hv8, _, _, _, _⟩ := own_shape hown8 (by omega); subst hv8; have b78 : Below u7.heap.size u7 w8 := (((Below.refl _ _).alloc (Nat.le_refl _) _).grown hgrow8 (by simp) (fun k hk => ((made0 u7).lt k hk).1)); have bw8 := bw7.trans (b78.mono bw7.size); have lv8 := lv7.add b78 bw7.size HF.out.1.2.2.2.1 hown8; have rD : Reads (w8.alloc (.cells #[] 5)) (some ⟨g2, 0, none⟩) (2 * len1 + 2) L1 := (lv8.reads (c := c2) (by simp) HF.out.1.2.2.2.2.1 HF.out.2.2.2.2.2.1).below ((Below.refl w8.heap.size w8).alloc (Nat.le_refl _) (.cells #[] 5)); clear lv7 hown8 hgrow8 b78 bw7 rC)
    | (at_builtin; refine wpList_append_reads rfl (.tmp 75) (.tmp 76) rfl w8.heap.size _ _ [] rfl (made0 w8) _ _ _ L1 rfl rD (by omega) (by simp) ?_; intro v9 w9 hown9 hgrow9; simp only [Nat.zero_add, List.nil_append] at hown9; obtain ⟨gr1, cr1, hv9, _, _, _, _⟩ := own_shape hown9 (by omega); subst hv9; have b89 : Below w8.heap.size w8 w9 := (((Below.refl _ _).alloc (Nat.le_refl _) _).grown hgrow9 (by simp) (fun k hk => ((made0 w8).lt k hk).1)); have bw9 := bw8.trans (b89.mono bw8.size); have lv9 := lv8.add b89 bw8.size HF.out.1.2.2.2.2.1 hown9; have b9A := (Below.refl w9.heap.size w9).alloc (Nat.le_refl _) (.cells #[.slice (some ⟨gr0, 0, none⟩) (2 * len0 + 2) cr0, .slice (some ⟨gr1, 0, none⟩) (2 * len1 + 2) cr1] 22); have lvA := lv9.below b9A; have bwA := bw9.trans (b9A.mono bw9.size); have arA : Arr _ w9.heap.size _ _ := heap_alloc_new w9 (.cells #[.slice (some ⟨gr0, 0, none⟩) (2 * len0 + 2) cr0, .slice (some ⟨gr1, 0, none⟩) (2 * len1 + 2) cr1] 22); have rr0A : Reads _ (some ⟨gr0, 0, none⟩) (2 * len0 + 2) L0 := lvA.reads (c := cr0) (by simp) HF.out.1.2.2.2.1 HF.out.2.2.2.2.1; clear lv8 hown9 hgrow9 b89 bw8 rD lv9 b9A bw9)
    | (go_at_call 18; refine (lay_read2 z0 L0 len0 _ _ _ _ ?_ ?_ ?_ ?_ ?_ ?_).mono ?_; (with_reducible exact rr0A); exact rfl; exact HL0.out; exact HF.out.1.1; exact hle0; exact HF.out.2.1; rintro e uB ⟨gU, cU, rfl, oB, bB⟩; have lvB := lvA.add bB bwA.size HF.out.1.1 oB; have bwB := bwA.trans (bB.mono bwA.size); have arB := arA.below bB; have c1B := arB.cell1; have rr1B : Reads uB (some ⟨gr1, 0, none⟩) (2 * len1 + 2) L1 := lvB.reads (c := cr1) (by simp) HF.out.1.2.2.2.2.1 HF.out.2.2.2.2.2.1; clear lvA oB bB bwA arA rr0A)
    | (go_at_call 18; refine (lay_read2 z1 L1 len1 _ _ _ _ ?_ ?_ ?_ ?_ ?_ ?_).mono ?_; (with_reducible exact rr1B); exact rfl; exact HL1.out; exact HF.out.1.2.1; exact hle1; exact HF.out.2.2.1; rintro e uC ⟨gV, cV, rfl, oC, bC⟩; have lvC := lvB.add bC bwB.size HF.out.1.2.1 oC; have bwC := bwB.trans (bC.mono bwB.size); have arC := arB.below bC; have c0C := arC.cell0; have rr0C : Reads uC (some ⟨gr0, 0, none⟩) (2 * len0 + 2) L0 := lvC.reads (c := cr0) (by simp) HF.out.1.2.2.2.1 HF.out.2.2.2.2.1; clear lvB oC bC bwB arB c1B rr1B)
    | (go_at_call 18; refine (lay_read2 z0 L0 len0 _ _ _ _ ?_ ?_ ?_ ?_ ?_ ?_).mono ?_; (with_reducible exact rr0C); exact rfl; exact HL0.out; exact HF.out.1.1; exact hle0; exact HF.out.2.1; rintro e uD ⟨gW, cW, rfl, oD, bD⟩; have lvD := lvC.add bD bwC.size HF.out.1.1 oD; have bwD := bwC.trans (bD.mono bwC.size); have arD := arC.below bD; clear lvC oD bD bwC arC c0C rr0C))
  have hx := lvD.own (v := .slice ax len0 cx) (xs := z0) (by simp) HF.out.1.1
  have HLV : Hid (Live _ _ _) := lvD
  have HAR : Hid (Arr _ _ _ _) := arD
  clear lvD arD
  go_loopw [20] (fun i wr => ∃ k : Nat, k ≤ len0 ∧ i = .int .i64 k ∧ wr.ownsRow w.heap.size 5 1 (.slice ax len0 cx) len0 ((turnT z0 k).map (Value.int .u8)) ∧ uD.grownBy wr (Value.slice ax len0 cx).ownBlock ∧ Below w.heap.size w wr)
    (fun i _ => len0 - (intOf i).toNat)
  case atStart => exact ⟨0, Nat.zero_le _, rfl, by simpa [turnT] using hx, World.grownBy.refl _ _, bwD⟩
  case round =>
    obtain ⟨k, hk, rfl, hrow, hg, bel⟩ := hrel
    clear hx
    by_cases hlt : k < len0
    · obtain ⟨g, cap, hsh, _, _, hBg, _⟩ := own_shape hrow (by omega)
      cases hsh
      have hcx := Own.cell (xs := turnT z0 k) hrow k hlt
      rw [turnT_getD z0 k (by rw [HF.out.1.1]; exact hlt)] at hcx
      have hfz := World.ownsRow.frozenAt hrow k
      obtain ⟨z, hz⟩ : ∃ z, z = z0.getD k 0 := ⟨_, rfl⟩
      rw [← hz] at hcx
      have hset := Own.set (xs := turnT z0 k) hrow k (bits .xor .u8 z 255)
      have hs1 := hset.1
      rw [hz, turnT_step z0 k (by rw [HF.out.1.1]; exact hlt), ← hz] at hs1
      have HS : Hid (Own _ _ _ _ _ _) := hs1
      have HG : Hid (World.grownBy _ _ _) := grownBy_trans hg hset.2
      have HBS : Hid (Below _ _ _) := bel.setCell (p := ⟨g, k, none⟩) hBg (.int .u8 (bits .xor .u8 z 255))
      have m1 : (k : Int) < (len0 : Int) := by omega
      have hd1 : decide ((k : Int) < (len0 : Int)) = true := decide_eq_true m1
      clear hset hs1 hz hrow hg bel bwD
      go_wp2
      go_roundw
      case rel => exact ⟨k + 1, by omega, by go_num, HS.out, HG.out, HBS.out⟩
      case measure => simp [intOf]; omega
    · have hkn : len0 = k := by omega
      subst hkn
      rw [HY0.out] at hrow
      have hx0 := HLV.out.own (v := .slice ax len0 cx) (xs := z0) (by simp) HF.out.1.1
      have lvE := Live.set [_, _, _, _, _, _, _, _, _] [] HLV.out hg HF.out.1.2.2.1 hrow
      simp only [List.cons_append, List.nil_append] at lvE
      have arE := HAR.out.grown hx0 hg
      have rxE : Reads wr ax len0 y0 := lvE.reads (c := cx) (by simp) HF.out.1.2.2.1 HF.out.2.2.2.1
      clear hx0 hrow hg HLV HAR bwD hlt hk
      go_wp2_with (first
        | (go_at_call 9; refine (lay_row2 y0 _ _ _ _ ?_ ?_ ?_).mono ?_; (with_reducible exact rxE); exact HF.out.1.2.2.1; exact hle0; rintro e uF ⟨gT, cT, rfl, oF, bF⟩; rw [HLT.out] at oF; have lvF := lvE.add bF bel.size HF.out.1.2.2.2.2.2 oF; have bwF := bel.trans (bF.mono bel.size); have arF := arE.below bF; have rTF : Reads uF (some ⟨gT, 0, none⟩) (2 * len0 + 2) Lt := lvF.reads (c := cT) (by simp) HF.out.1.2.2.2.2.2 HF.out.2.2.2.2.2.2; clear lvE arE rxE oF bF bel)
        | (go_at_call 18; refine (lay_read2 y0 Lt len0 _ _ _ _ ?_ ?_ ?_ ?_ ?_ ?_).mono ?_; (with_reducible exact rTF); exact rfl; exact HLT.out; exact HF.out.1.2.2.1; exact hle0; exact HF.out.2.2.2.1; rintro e uG ⟨gK, cK, rfl, oG, bG⟩; have lvG := lvF.add bG bwF.size HF.out.1.2.2.1 oG; have bwG := bwF.trans (bG.mono bwF.size); have arG := arF.below bG; have rKG : Reads uG (some ⟨gK, 0, none⟩) len0 y0 := lvG.reads (c := cK) (by simp) HF.out.1.2.2.1 HF.out.2.2.2.1; have rxG : Reads uG ax len0 y0 := lvG.reads (c := cx) (by simp) HF.out.1.2.2.1 HF.out.2.2.2.1; clear lvF bwF arF rTF oG bG)
        | (go_at_call 10; refine (no_any _ _).mono ?_; rintro e u ⟨rfl, rfl⟩)
        | (go_at_call 12; refine (same_any _ _ _ _ _ y0 y0 _ ?_ ?_ ?_).mono ?_; omega; (with_reducible exact rKG); exact rxG; rintro e uH ⟨rfl, kH, hH⟩; have lvH := lvG.drewN kH; have bwH := below_drewN bwG kH; have arH := arG.drewN kH; rw [← hH] at lvH bwH arH; clear hH lvG bwG arG rKG rxG))
      have hy := lvH.own (v := .slice ay len1 cy) (xs := z1) (by simp) HF.out.1.2.1
      have HLV : Hid (Live _ _ _) := lvH
      have HAR : Hid (Arr _ _ _ _) := arH
      clear lvH arH
      go_loopw [26] (fun i wr => ∃ k : Nat, k ≤ len1 ∧ i = .int .i64 k ∧ wr.ownsRow w.heap.size 5 1 (.slice ay len1 cy) len1 ((turnT z1 k).map (Value.int .u8)) ∧ uH.grownBy wr (Value.slice ay len1 cy).ownBlock ∧ Below w.heap.size w wr)
        (fun i _ => len1 - (intOf i).toNat)
      case atStart => exact ⟨0, Nat.zero_le _, rfl, by simpa [turnT] using hy, World.grownBy.refl _ _, bwH⟩
      case round =>
        obtain ⟨k, hk, rfl, hrow, hg, bel⟩ := hrel
        clear hy
        by_cases hlt : k < len1
        · obtain ⟨g, cap, hsh, _, _, hBg, _⟩ := own_shape hrow (by omega)
          cases hsh
          have hcx := Own.cell (xs := turnT z1 k) hrow k hlt
          rw [turnT_getD z1 k (by rw [HF.out.1.2.1]; exact hlt)] at hcx
          have hfz := World.ownsRow.frozenAt hrow k
          obtain ⟨z, hz⟩ : ∃ z, z = z1.getD k 0 := ⟨_, rfl⟩
          rw [← hz] at hcx
          have hset := Own.set (xs := turnT z1 k) hrow k (bits .xor .u8 z 255)
          have hs1 := hset.1
          rw [hz, turnT_step z1 k (by rw [HF.out.1.2.1]; exact hlt), ← hz] at hs1
          have HS : Hid (Own _ _ _ _ _ _) := hs1
          have HG : Hid (World.grownBy _ _ _) := grownBy_trans hg hset.2
          have HBS : Hid (Below _ _ _) := bel.setCell (p := ⟨g, k, none⟩) hBg (.int .u8 (bits .xor .u8 z 255))
          have m1 : (k : Int) < (len1 : Int) := by omega
          have hd1 : decide ((k : Int) < (len1 : Int)) = true := decide_eq_true m1
          clear hset hs1 hz hrow hg bel bwH
          go_wp2
          go_roundw
          case rel => exact ⟨k + 1, by omega, by go_num, HS.out, HG.out, HBS.out⟩
          case measure => simp [intOf]; omega
        · have hkn : len1 = k := by omega
          subst hkn
          have hy0 := HLV.out.own (v := .slice ay len1 cy) (xs := z1) (by simp) HF.out.1.2.1
          have lvI := Live.set [_, _, _, _, _, _, _, _, _, _] [_] HLV.out hg ((turnT_length z1 _).trans HF.out.1.2.1) hrow
          simp only [List.cons_append, List.nil_append] at lvI
          have arI := HAR.out.grown hy0 hg
          have c0I := arI.cell0
          have or0 := lvI.own (v := .slice (some ⟨gr0, 0, none⟩) (2 * len0 + 2) cr0) (xs := L0) (by simp) HF.out.1.2.2.2.1
          have rTI : Reads wr (some ⟨gT, 0, none⟩) (2 * len0 + 2) Lt := lvI.reads (c := cT) (by simp) HF.out.1.2.2.2.2.2 HF.out.2.2.2.2.2.2
          obtain ⟨wJ, hrunJ, oJ, gJ⟩ := run_copy_all 3 w.heap.size gr0 (2 * len0 + 2) cr0 cT L0 Lt ⟨gT, 0, none⟩ or0 rTI
          have lvJ := Live.set [_, _, _, _, _, _] [_, _, _, _, _] lvI gJ HF.out.1.2.2.2.2.2 oJ
          simp only [List.cons_append, List.nil_append] at lvJ
          have arJ := arI.grown or0 gJ
          have bwJ := bel.grown gJ bel.size (fun q hq => (or0.lt q hq).1)
          have c0J := arJ.cell0
          have rr0J : Reads wJ (some ⟨gr0, 0, none⟩) (2 * len0 + 2) Lt := lvJ.reads (c := cr0) (by simp) HF.out.1.2.2.2.2.2 HF.out.2.2.2.2.2.2
          clear hy0 hrow hg HLV HAR bwH hlt hk lvI arI or0 rTI bel oJ gJ
          go_wp2_with (first
            | (go_at_call 18; refine (lay_read2 y0 Lt len0 _ _ _ _ ?_ ?_ ?_ ?_ ?_ ?_).mono ?_; (with_reducible exact rr0J); exact rfl; exact HLT.out; exact HF.out.1.2.2.1; exact hle0; exact HF.out.2.2.2.1; rintro e uK ⟨gN, cN, rfl, oK, bK⟩; have lvK := lvJ.add bK bwJ.size HF.out.1.2.2.1 oK; have bwK := bwJ.trans (bK.mono bwJ.size); have arK := arJ.below bK; clear lvJ arJ bwJ c0J rr0J oK bK))
          have or1 := lvK.own (v := .slice (some ⟨gr1, 0, none⟩) (2 * len1 + 2) cr1) (xs := L1) (by simp) HF.out.1.2.2.2.2.1
          have HLV : Hid (Live _ _ _) := lvK
          have HAR : Hid (Arr _ _ _ _) := arK
          clear lvK arK
          go_loopw [29] (fun i wr => ∃ k : Nat, k ≤ 2 * len1 + 2 ∧ i = .int .i64 k ∧ Own wr w.heap.size gr1 (2 * len1 + 2) cr1 (sixty L1 k) ∧ uK.grownBy wr (some gr1) ∧ Below w.heap.size w wr)
            (fun i _ => 2 * len1 + 2 - (intOf i).toNat)
          case atStart => exact ⟨0, Nat.zero_le _, rfl, by simpa [sixty, Own] using or1, World.grownBy.refl _ _, bwK⟩
          case round =>
            obtain ⟨k, hk, rfl, hrow, hg, bel⟩ := hrel
            have ar2 := HAR.out.grown or1 hg
            have c1R := ar2.cell1
            by_cases hlt : k < 2 * len1 + 2
            · have hcx := hrow.cell k hlt
              have hfz := World.ownsRow.frozenAt hrow k
              have hset := hrow.set k 60
              have hs1 := hset.1
              rw [sixty_step L1 k (by rw [HF.out.1.2.2.2.2.1]; exact hlt)] at hs1
              have HS : Hid (Own _ _ _ _ _ _) := hs1
              have HG : Hid (World.grownBy _ _ _) := grownBy_trans hg hset.2
              have HBS : Hid (Below _ _ _) := bel.setCell (p := ⟨gr1, k, none⟩) hrow.lt.1 (.int .u8 60)
              have m1 : (k : Int) < 2 * (len1 : Int) + 2 := by omega
              have hd1 : decide ((k : Int) < 2 * (len1 : Int) + 2) = true := decide_eq_true m1
              clear hset hs1 hrow hg bel bwK or1 ar2
              go_wp2
              go_roundw
              case rel => exact ⟨k + 1, by omega, by go_num, HS.out, HG.out, HBS.out⟩
              case measure => simp [intOf]; omega
            · have hlS : (sixty L1 k).length = 2 * len1 + 2 := hrow.len
              have lvL := Live.set [_, _, _, _, _, _] [_, _, _, _, _, _] HLV.out hg hlS hrow
              simp only [List.cons_append, List.nil_append] at lvL
              have rN : Reads wr (some ⟨gN, 0, none⟩) len0 y0 := lvL.reads (c := cN) (by simp) HF.out.1.2.2.1 HF.out.2.2.2.1
              have rX : Reads wr ax len0 y0 := lvL.reads (c := cx) (by simp) HF.out.1.2.2.1 HF.out.2.2.2.1
              have rU : Reads wr (some ⟨gU, 0, none⟩) len0 z0 := lvL.reads (c := cU) (by simp) HF.out.1.1 HF.out.2.1
              have rW : Reads wr (some ⟨gW, 0, none⟩) len0 z0 := lvL.reads (c := cW) (by simp) HF.out.1.1 HF.out.2.1
              have rV : Reads wr (some ⟨gV, 0, none⟩) len1 z1 := lvL.reads (c := cV) (by simp) HF.out.1.2.1 HF.out.2.2.1
              have rO : Reads wr (some ⟨g1, 0, none⟩) (2 * len0 + 2) L0 := lvL.reads (c := c1) (by simp) HF.out.1.2.2.2.1 HF.out.2.2.2.2.1
              have rH : Reads wr (some ⟨g3, 0, none⟩) (2 * len0 + 2) L0 := lvL.reads (c := c3) (by simp) HF.out.1.2.2.2.1 HF.out.2.2.2.2.1
              have rb := w0.below bel
              have rc := w1.below bel
              have cun : ∀ q, Calls Try.prog 21 #[.slice (some ⟨wr.heap.size, 0, none⟩) 9 9] ((wr.drewN q).alloc (.cells #[.slice (some ⟨g1, 0, none⟩) (2 * len0 + 2) c1, .slice (some ⟨g2, 0, none⟩) (2 * len1 + 2) c2, .slice (some ⟨g3, 0, none⟩) (2 * len0 + 2) c3, .slice (some ⟨gU, 0, none⟩) len0 cU, .slice (some ⟨gV, 0, none⟩) len1 cV, .slice (some ⟨gW, 0, none⟩) len0 cW, .slice (some ⟨gT, 0, none⟩) (2 * len0 + 2) cT, .slice (some ⟨gK, 0, none⟩) len0 cK, .slice (some ⟨gN, 0, none⟩) len0 cN] 22)) fun e w' => e = .returned (.bool true) ∧ Below w.heap.size ((wr.drewN q).alloc (.cells #[.slice (some ⟨g1, 0, none⟩) (2 * len0 + 2) c1, .slice (some ⟨g2, 0, none⟩) (2 * len1 + 2) c2, .slice (some ⟨g3, 0, none⟩) (2 * len0 + 2) c3, .slice (some ⟨gU, 0, none⟩) len0 cU, .slice (some ⟨gV, 0, none⟩) len1 cV, .slice (some ⟨gW, 0, none⟩) len0 cW, .slice (some ⟨gT, 0, none⟩) (2 * len0 + 2) cT, .slice (some ⟨gK, 0, none⟩) len0 cK, .slice (some ⟨gN, 0, none⟩) len0 cN] 22)) w' := fun q =>
                unmet_any _ w.heap.size wr.heap.size 9 9 _ _ _ (nine (lvL.drewN q) [(.slice (some ⟨g1, 0, none⟩) (2 * len0 + 2) c1, L0), (.slice (some ⟨g2, 0, none⟩) (2 * len1 + 2) c2, L1), (.slice (some ⟨g3, 0, none⟩) (2 * len0 + 2) c3, L0), (.slice (some ⟨gU, 0, none⟩) len0 cU, z0), (.slice (some ⟨gV, 0, none⟩) len1 cV, z1), (.slice (some ⟨gW, 0, none⟩) len0 cW, z0), (.slice (some ⟨gT, 0, none⟩) (2 * len0 + 2) cT, Lt), (.slice (some ⟨gK, 0, none⟩) len0 cK, y0), (.slice (some ⟨gN, 0, none⟩) len0 cN, y0)] (by
                  simp only [List.reverse_cons, List.reverse_nil, List.nil_append, List.cons_append]
                  exact .cons_cons _ (.cons_cons _ (.cons_cons _ (.cons_cons _ (.cons_cons _ (.cons_cons _ (.cons _ (.cons _ (.cons_cons _ (.cons_cons _ (.cons_cons _ (.cons _ (.cons _ .slnil))))))))))))) (by
                  have := HF.out.1.1; have := HF.out.1.2.1; have := HF.out.1.2.2.1; have := HF.out.1.2.2.2.1; have := HF.out.1.2.2.2.2.1; have := HF.out.1.2.2.2.2.2
                  simp only [List.mem_cons, List.not_mem_nil, or_false]
                  rintro p (rfl | rfl | rfl | rfl | rfl | rfl | rfl | rfl | rfl) <;> simp only [] <;> omega) 9 rfl _ rfl) (by omega) (by have := bel.size; simp; omega)
              have HUN : Hid _ := cun
              clear cun lvL hrow hg HLV HAR or1 ar2 bwK
              go_wp2_with (first
                | (go_at_call 10; refine (no_any _ _).mono ?_; rintro e u ⟨rfl, rfl⟩)
                | (go_at_call 12; refine (same_any _ _ _ _ _ y0 y0 _ ?_ ?_ ?_).mono ?_; omega; (first | with_reducible exact rN | with_reducible exact rN.drewN _); (first | with_reducible exact rX | with_reducible exact rX.drewN _); rintro e u ⟨rfl, q1, rfl⟩)
                | (go_at_call 12; refine (same_any _ _ _ _ _ z0 z0 _ ?_ ?_ ?_).mono ?_; omega; (first | with_reducible exact rU.drewN _ | with_reducible exact rW.drewN _); (with_reducible exact rb.drewN _); rintro e u ⟨rfl, q2, rfl⟩)
                | (go_at_call 12; refine (same_any _ _ _ _ _ z1 z1 _ ?_ ?_ ?_).mono ?_; omega; (with_reducible exact rV.drewN _); (with_reducible exact rc.drewN _); rintro e u ⟨rfl, q3, rfl⟩)
                | (go_at_call 12; refine (same_any _ _ _ _ _ L0 L0 _ ?_ ?_ ?_).mono ?_; omega; (with_reducible exact rO.drewN _); (with_reducible exact rH.drewN _); rintro e u ⟨rfl, q4, rfl⟩)
                | (go_at_call 21; refine (HUN.out _).mono ?_; rintro e uZ ⟨rfl, bZ⟩))
              go_ret
              exact ⟨rfl, ((below_drewN bel _).alloc (by have := bel.size; simp; omega) _).trans bZ⟩

end Go.Proofs.Ytkcpfcnpniblcad.railOwn
