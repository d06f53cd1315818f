/-
  SEAT YtnopljjngbgpdabDoor: the reference's Pack: a piece that is a page.
-/
import Derived.Test.YtnopljjngbgpdabDoorPq
namespace Go.Proofs.YtnopljjngbgpdabDoor
open Go.RowKit
set_option linter.unusedVariables false

theorem wr_stop {P : List Int} {C t : Nat} (hC : C ≤ P.length) (ht : t ≤ C) (h : ∀ i, t ≤ i → i < C → P.getD i 0 = 255) (h3 : t = 0 ∨ P.getD (t - 1) 0 ≠ 255) : wrN (P.take C) = t := by
  have hl : (P.take C).length = C := by rw [List.length_take]; omega
  have hg : ∀ i, i < C → (P.take C).getD i 0 = P.getD i 0 := fun i hi => by
    rw [List.getD_eq_getElem?_getD, List.getElem?_take, if_pos hi, ← List.getD_eq_getElem?_getD]
  refine wrN_char _ t (by omega) (fun i h1 h2 => ?_) ?_
  · rw [hl] at h2
    rw [hg i h2]
    exact h i h1 h2
  · rcases Nat.eq_zero_or_pos t with h0 | h0
    · exact Or.inl h0
    · right
      rw [hg (t - 1) (by omega)]
      exact h3.resolve_left (by omega)
set_option maxHeartbeats 1500000 in
set_option maxRecDepth 100000 in
theorem piece_told (b p s : Nat) (a a' : Option Addr) (n c m c' : Nat) (xs : List Int) (w : World) (k L N : Nat) (hf : Fits (b : Int) (p : Int) (s : Int) = true) (hr : Reads w a n xs) (hL : 256 * s + (54 + 3 * s) = L) (hN : b * p = N) (hn : n = N * L) (hk : k < N) (hw1 : kindL xs L k = 1) :
    Calls Tryd.prog 42 #[.agg #[.int .i64 (b : Int), .int .i64 (p : Int), .int .i64 (s : Int), .slice a n c, .slice a' m c'], .int .i64 (k : Int)] w fun e w' => ∃ v, e = .returned (.tuple #[v, .int .i64 1]) ∧ w'.ownsRow w.heap.size 5 1 v (enc (256 * s) ⟨1, 1, pgK xs L k⟩).length ((enc (256 * s) ⟨1, 1, pgK xs L k⟩).map (Value.int .u8)) ∧ Below w.heap.size w w' := by
  obtain ⟨q1, q2, q3, q4, q5, q6, q7⟩ := fits_nat hf
  have hNb : N ≤ 65536 := by omega
  have hLb : L ≤ 2200 := by omega
  have hnb : n ≤ 144179200 := by rw [hn]; exact Nat.mul_le_mul hNb hLb
  have HLn : Hid ((L : Int) = 256 * (s : Int) + (54 + 3 * (s : Int))) := by unfold Hid; omega
  have hKn : (k + 1) * L ≤ n := by rw [hn]; exact Nat.mul_le_mul_right L hk
  have HKN : Hid ((k + 1) * L ≤ n) := hKn
  have HWK : Hid (kindL xs L k = 1) := hw1
  obtain ⟨C, hC⟩ : ∃ C, 256 * s = C := ⟨_, rfl⟩
  have wC : IntKind.i64.wrap (256 * (s : Int)) = (C : Int) := by rw [IntKind.wrap_i64]; omega
  have hCL : C ≤ L := by omega
  have hCb : C ≤ 2048 := by omega
  have hPb := pg_byt (L := L) (k := k) hr.2.1
  have hPl : (pgK xs L k).length = L := by
    unfold pgK
    rw [List.length_take, List.length_drop, hr.1]
    rw [Nat.succ_mul] at hKn
    omega
  rw [hC]
  obtain ⟨P, hP⟩ : ∃ P, pgK xs L k = P := ⟨_, rfl⟩
  have HPE : Hid ((xs.drop (k * L)).take L = P) := hP
  rw [hP] at hPb hPl ⊢
  have HPB : Hid (∀ x ∈ P, 0 ≤ x ∧ x ≤ 255) := hPb
  have HPL : Hid (P.length = L) := hPl
  have HR : Hid (Reads w a n xs) := hr
  have HM0 : Hid ((w.alloc (.cells #[.int .i64 (b : Int), .int .i64 (p : Int), .int .i64 (s : Int), .slice a n c, .slice a' m c'] 27)).heap[w.heap.size]? = some (.cells #[.int .i64 (b : Int), .int .i64 (p : Int), .int .i64 (s : Int), .slice a n c, .slice a' m c'] 27 (0, 0))) := heap_alloc_new w _
  have HB0 : Hid (Below w.heap.size w (w.alloc (.cells #[.int .i64 (b : Int), .int .i64 (p : Int), .int .i64 (s : Int), .slice a n c, .slice a' m c'] 27))) := below_alloc w _
  obtain ⟨x0, x1, x2, x3, x4⟩ := cells5 HM0.out
  clear hr hL hN hn hf q7 hw1 hC hP hPb hPl hKn
  go_enter Tryd.func42, Tryd.ntmps42
  go_wp2_with (first
    | (go_at_call 67; refine (kind_any b p s a a' n c m c' xs _ k L (by omega) (by omega) (by omega) (HR.out.below HB0.out) HLn.out HKN.out (by omega)).mono ?_; rintro e u1 ⟨rfl, bl⟩; rw [HWK.out]
       have HB1 : Hid (Below w.heap.size w u1) := below_trans HB0.out bl
       have HM1 : Hid (u1.heap[w.heap.size]? = some (.cells #[.int .i64 (b : Int), .int .i64 (p : Int), .int .i64 (s : Int), .slice a n c, .slice a' m c'] 27 (0, 0))) := (bl.block _ (lt_of_bk HM0.out)).trans HM0.out
       clear bl x0 x1 x2 x3 x4
       obtain ⟨x0, x1, x2, x3, x4⟩ := cells5 HM1.out)
    | (go_at_call 68; refine (rpage_any b p s a a' n c m c' xs _ k L (k * L) ((k + 1) * L) (by omega) (by omega) (by omega) (HR.out.below HB1.out) HLn.out rfl rfl HKN.out (by omega)).mono ?_; rintro e u2 ⟨vv, rfl, oo, bl⟩; rw [HPE.out] at oo
       obtain ⟨ap, cp, rfl, rp⟩ := own_any oo HPB.out
       have HP : Hid (Reads u2 ap L P) := rp
       have HB2 : Hid (Below w.heap.size w u2) := below_trans HB1.out bl
       have HM2 : Hid (u2.heap[w.heap.size]? = some (.cells #[.int .i64 (b : Int), .int .i64 (p : Int), .int .i64 (s : Int), .slice a n c, .slice a' m c'] 27 (0, 0))) := (bl.block _ (lt_of_bk HM1.out)).trans HM1.out
       clear oo rp bl x0 x1 x2 x3 x4
       obtain ⟨x0, x1, x2, x3, x4⟩ := cells5 HM2.out))
  clear x0 x1 x2 x3 x4
  go_loopw [9] (fun s9 wq => ∃ t : Nat, t ≤ C ∧ s9 = .int .i64 (t : Int) ∧ Hid (∀ i, t ≤ i → i < C → P.getD i 0 = 255) ∧ wq = u2) (fun i _ => (intOf i).toNat)
  case atStart => exact ⟨C, Nat.le_refl _, rfl, fun i h1 h2 => by omega, rfl⟩
  case round =>
    obtain ⟨t, ht, rfl, HALL, rfl⟩ := hrel
    rcases Nat.eq_zero_or_pos t with ht0 | ht0
    · subst ht0
      have HWR : Hid (wrN (P.take C) = 0) := wr_stop (by rw [HPL.out]; exact hCL) ht HALL.out (Or.inl rfl)
      have HZ1 : Hid ((P.drop 0).take (0 - 0) = P.take 0) := by unfold Hid; rw [List.drop_zero, Nat.sub_zero]
      have HZ1B : Hid (∀ x ∈ P.take 0, 0 ≤ x ∧ x ≤ 255) := fun x hx => HPB.out x (List.mem_of_mem_take hx)
      have HZ2 : Hid ((P.drop C).take (L - C) = P.drop C) := by unfold Hid; rw [List.take_of_length_le (by rw [List.length_drop, HPL.out]; exact Nat.le_refl _)]
      have HZ2B : Hid (∀ x ∈ P.drop C, 0 ≤ x ∧ x ≤ 255) := fun x hx => HPB.out x (List.mem_of_mem_drop hx)
      have T5 : Hid True := trivial
      go_wp2_with (first
        | (go_at_call 66; refine (two_any 0 _ (by omega)).mono ?_; rintro e u5 ⟨vv, rfl, own1, bl⟩
           obtain ⟨ad, cd, rfl, rd⟩ := own_any own1 (le2_byt (by omega))
           have HO5 : Hid (u5.ownsRow wr.heap.size 5 1 (.slice (some ⟨wr.heap.size, 0, none⟩) 1 1) 1 ([(1 : Int)].map (Value.int .u8))) := row_below5 (World.ownsRow_lit (e := 5) (size := 1) wr #[.int .u8 1] 1 (Nat.le_refl _) (by simp [maxLen]) rfl) bl
           have HD5 : Hid (Reads u5 ad 2 (le2 0)) := rd
           have HB5 : Hid (Below wr.heap.size wr u5) := below_trans (below_alloc _ _) bl
           clear own1 bl rd)
        | (at_builtin; refine wpList_append_reads rfl (.tmp 37) (.tmp 39) rfl wr.heap.size (.slice (some ⟨wr.heap.size, 0, none⟩) 1 1) 1 ([(1 : Int)]) rfl HO5.out ad 2 cd (le2 0) rfl HD5.out (by omega) HB5.out.size ?_; intro v6 w6 own2 grow2
           have HB6 : Hid (Below wr.heap.size wr w6) := HB5.out.grown grow2 HB5.out.size (fun q hq => (HO5.out.lt q hq).1)
           have HO6 : Hid (w6.ownsRow wr.heap.size 5 1 v6 3 (([(1 : Int)] ++ le2 0).map (Value.int .u8))) := own2
           clear own2 grow2)
        | (go_at_call 69; have zz := T5; clear T5 zz; refine (part_any ap L cp 0 0 P _ (by omega) (by omega) (by omega) (HP.out.below HB6.out)).mono ?_; rintro e u7 ⟨vv, rfl, own1, bl⟩; rw [HZ1.out] at own1
           obtain ⟨ac, cc, rfl, rd⟩ := own_any own1 HZ1B.out
           have HO7 : Hid (u7.ownsRow wr.heap.size 5 1 v6 3 (([(1 : Int)] ++ le2 0).map (Value.int .u8))) := row_below5 HO6.out bl
           have HD7 : Hid (Reads u7 ac (0 - 0) (P.take 0)) := rd
           have HB7 : Hid (Below wr.heap.size wr u7) := below_trans HB6.out bl
           clear own1 bl rd)
        | (at_builtin; refine wpList_append_reads rfl (.tmp 41) (.tmp 44) rfl wr.heap.size v6 3 ([(1 : Int)] ++ le2 0) rfl HO7.out ac (0 - 0) cc (P.take 0) rfl HD7.out (by omega) HB7.out.size ?_; intro v8 w8 own2 grow2
           have HB8 : Hid (Below wr.heap.size wr w8) := HB7.out.grown grow2 HB7.out.size (fun q hq => (HO7.out.lt q hq).1)
           have HO8 : Hid (w8.ownsRow wr.heap.size 5 1 v8 (3 + (0 - 0)) (([(1 : Int)] ++ le2 0 ++ P.take 0).map (Value.int .u8))) := own2
           clear own2 grow2)
        | (go_at_call 69; refine (part_any ap L cp C L P _ (by omega) (by omega) (by omega) (HP.out.below HB8.out)).mono ?_; rintro e u9 ⟨vv, rfl, own1, bl⟩; rw [HZ2.out] at own1
           obtain ⟨af, cf, rfl, rd⟩ := own_any own1 HZ2B.out
           have HO9 : Hid (u9.ownsRow wr.heap.size 5 1 v8 (3 + (0 - 0)) (([(1 : Int)] ++ le2 0 ++ P.take 0).map (Value.int .u8))) := row_below5 HO8.out bl
           have HD9 : Hid (Reads u9 af (L - C) (P.drop C)) := rd
           have HB9 : Hid (Below wr.heap.size wr u9) := below_trans HB8.out bl
           clear own1 bl rd)
        | (at_builtin; refine wpList_append_reads rfl (.tmp 46) (.tmp 51) rfl wr.heap.size v8 (3 + (0 - 0)) ([(1 : Int)] ++ le2 0 ++ P.take 0) rfl HO9.out af (L - C) cf (P.drop C) rfl HD9.out (by omega) HB9.out.size ?_; intro v10 w10 own2 grow2
           have HB10 : Hid (Below wr.heap.size wr w10) := HB9.out.grown grow2 HB9.out.size (fun q hq => (HO9.out.lt q hq).1)
           have HO10 : Hid (w10.ownsRow wr.heap.size 5 1 v10 (3 + (0 - 0) + (L - C)) (([(1 : Int)] ++ le2 0 ++ P.take 0 ++ P.drop C).map (Value.int .u8))) := own2
           clear own2 grow2))
      go_ret2
      refine ⟨v10, rfl, ?_, below_trans HB2.out HB10.out⟩
      have h9 := ownsRow_base HO10.out HB2.out.size
      have e9 : [(1 : Int)] ++ le2 0 ++ P.take 0 ++ P.drop C = enc C ⟨1, 1, P⟩ := by
        unfold enc
        rw [if_pos rfl, HWR.out, List.append_assoc]
      have l9 : (enc C ⟨1, 1, P⟩).length = 3 + (0 - 0) + (L - C) := by
        rw [← e9]
        simp [le2, HPL.out]
        omega
      rw [e9] at h9
      rw [l9]
      exact h9
    · obtain ⟨j, rfl⟩ : ∃ j, t = j + 1 := ⟨t - 1, by omega⟩
      have hj : j < L := by omega
      obtain ⟨pb, po, rfl, hpb, hpc⟩ := HP.out.pos (by omega)
      obtain ⟨z, hz⟩ : ∃ z, P.getD j 0 = z := ⟨_, rfl⟩
      have hcz := hpc j hj
      rw [hz] at hcz
      have dj : (j : Int) < (L : Int) := by omega
      have w1 : IntKind.i64.wrap (((j + 1 : Nat) : Int) - 1) = (j : Int) := by rw [IntKind.wrap_i64]; omega
      have w2 : IntKind.i64.wrap (j : Int) = (j : Int) := by rw [IntKind.wrap_i64]; omega
      have dt : (0 : Int) < ((j + 1 : Nat) : Int) := by omega
      clear hpc
      by_cases hz2 : z = 255
      · have HA2 : Hid (∀ i, j ≤ i → i < C → P.getD i 0 = 255) := fun i h1 h2 => by
          rcases Nat.lt_or_ge j i with h8 | h8
          · exact HALL.out i h8 h2
          · obtain rfl : i = j := by omega
            exact hz.trans hz2
        clear hz
        subst hz2
        go_wp2_with fail
        go_roundw
        case rel => exact ⟨j, by omega, by go_num, HA2, by trivial⟩
        case measure => simp [intOf]
      · have ez : (z == 255) = false := by rw [beq_eq_false_iff_ne]; exact hz2
        have HWR0 : Hid (wrN (P.take C) = j + 1) := wr_stop (by rw [HPL.out]; exact hCL) ht HALL.out (Or.inr (by rw [Nat.add_sub_cancel, hz]; exact hz2))
        clear hz hz2
        go_upto_region 8 with fail
        obtain ⟨t, htj⟩ : ∃ t, j + 1 = t := ⟨_, rfl⟩
        have HWR : Hid (wrN (P.take C) = t) := by unfold Hid; rw [← htj]; exact HWR0.out
        have htC : t ≤ C := by omega
        have htt : ((j : Int) + 1) = (t : Int) := by omega
        have htt2 : (((j + 1 : Nat) : Int)) = (t : Int) := by omega
        try rw [htt]
        try rw [htt2]
        clear htt htt2 htj HALL w1 dt
        have HZ1 : Hid ((P.drop 0).take (t - 0) = P.take t) := by unfold Hid; rw [List.drop_zero, Nat.sub_zero]
        have HZ1B : Hid (∀ x ∈ P.take t, 0 ≤ x ∧ x ≤ 255) := fun x hx => HPB.out x (List.mem_of_mem_take hx)
        have HZ2 : Hid ((P.drop C).take (L - C) = P.drop C) := by unfold Hid; rw [List.take_of_length_le (by rw [List.length_drop, HPL.out]; exact Nat.le_refl _)]
        have HZ2B : Hid (∀ x ∈ P.drop C, 0 ≤ x ∧ x ≤ 255) := fun x hx => HPB.out x (List.mem_of_mem_drop hx)
        have T5 : Hid True := trivial
        go_wp2_with (first
          | (go_at_call 66; refine (two_any t _ (by omega)).mono ?_; rintro e u5 ⟨vv, rfl, own1, bl⟩
             obtain ⟨ad, cd, rfl, rd⟩ := own_any own1 (le2_byt (by omega))
             have HO5 : Hid (u5.ownsRow wr.heap.size 5 1 (.slice (some ⟨wr.heap.size, 0, none⟩) 1 1) 1 ([(1 : Int)].map (Value.int .u8))) := row_below5 (World.ownsRow_lit (e := 5) (size := 1) wr #[.int .u8 1] 1 (Nat.le_refl _) (by simp [maxLen]) rfl) bl
             have HD5 : Hid (Reads u5 ad 2 (le2 t)) := rd
             have HB5 : Hid (Below wr.heap.size wr u5) := below_trans (below_alloc _ _) bl
             clear own1 bl rd)
          | (at_builtin; refine wpList_append_reads rfl (.tmp 37) (.tmp 39) rfl wr.heap.size (.slice (some ⟨wr.heap.size, 0, none⟩) 1 1) 1 ([(1 : Int)]) rfl HO5.out ad 2 cd (le2 t) rfl HD5.out (by omega) HB5.out.size ?_; intro v6 w6 own2 grow2
             have HB6 : Hid (Below wr.heap.size wr w6) := HB5.out.grown grow2 HB5.out.size (fun q hq => (HO5.out.lt q hq).1)
             have HO6 : Hid (w6.ownsRow wr.heap.size 5 1 v6 3 (([(1 : Int)] ++ le2 t).map (Value.int .u8))) := own2
             clear own2 grow2)
          | (go_at_call 69; have zz := T5; clear T5 zz; refine (part_any (some ⟨pb, po, none⟩) L cp 0 t P _ (by omega) (by omega) (by omega) (HP.out.below HB6.out)).mono ?_; rintro e u7 ⟨vv, rfl, own1, bl⟩; rw [HZ1.out] at own1
             obtain ⟨ac, cc, rfl, rd⟩ := own_any own1 HZ1B.out
             have HO7 : Hid (u7.ownsRow wr.heap.size 5 1 v6 3 (([(1 : Int)] ++ le2 t).map (Value.int .u8))) := row_below5 HO6.out bl
             have HD7 : Hid (Reads u7 ac (t - 0) (P.take t)) := rd
             have HB7 : Hid (Below wr.heap.size wr u7) := below_trans HB6.out bl
             clear own1 bl rd)
          | (at_builtin; refine wpList_append_reads rfl (.tmp 41) (.tmp 44) rfl wr.heap.size v6 3 ([(1 : Int)] ++ le2 t) rfl HO7.out ac (t - 0) cc (P.take t) rfl HD7.out (by omega) HB7.out.size ?_; intro v8 w8 own2 grow2
             have HB8 : Hid (Below wr.heap.size wr w8) := HB7.out.grown grow2 HB7.out.size (fun q hq => (HO7.out.lt q hq).1)
             have HO8 : Hid (w8.ownsRow wr.heap.size 5 1 v8 (3 + (t - 0)) (([(1 : Int)] ++ le2 t ++ P.take t).map (Value.int .u8))) := own2
             clear own2 grow2)
          | (go_at_call 69; refine (part_any (some ⟨pb, po, none⟩) L cp C L P _ (by omega) (by omega) (by omega) (HP.out.below HB8.out)).mono ?_; rintro e u9 ⟨vv, rfl, own1, bl⟩; rw [HZ2.out] at own1
             obtain ⟨af, cf, rfl, rd⟩ := own_any own1 HZ2B.out
             have HO9 : Hid (u9.ownsRow wr.heap.size 5 1 v8 (3 + (t - 0)) (([(1 : Int)] ++ le2 t ++ P.take t).map (Value.int .u8))) := row_below5 HO8.out bl
             have HD9 : Hid (Reads u9 af (L - C) (P.drop C)) := rd
             have HB9 : Hid (Below wr.heap.size wr u9) := below_trans HB8.out bl
             clear own1 bl rd)
          | (at_builtin; refine wpList_append_reads rfl (.tmp 46) (.tmp 51) rfl wr.heap.size v8 (3 + (t - 0)) ([(1 : Int)] ++ le2 t ++ P.take t) rfl HO9.out af (L - C) cf (P.drop C) rfl HD9.out (by omega) HB9.out.size ?_; intro v10 w10 own2 grow2
             have HB10 : Hid (Below wr.heap.size wr w10) := HB9.out.grown grow2 HB9.out.size (fun q hq => (HO9.out.lt q hq).1)
             have HO10 : Hid (w10.ownsRow wr.heap.size 5 1 v10 (3 + (t - 0) + (L - C)) (([(1 : Int)] ++ le2 t ++ P.take t ++ P.drop C).map (Value.int .u8))) := own2
             clear own2 grow2))
        go_ret2
        refine ⟨v10, rfl, ?_, below_trans HB2.out HB10.out⟩
        have h9 := ownsRow_base HO10.out HB2.out.size
        have e9 : [(1 : Int)] ++ le2 t ++ P.take t ++ P.drop C = enc C ⟨1, 1, P⟩ := by
          unfold enc
          rw [if_pos rfl, HWR.out, List.append_assoc]
        have l9 : (enc C ⟨1, 1, P⟩).length = 3 + (t - 0) + (L - C) := by
          rw [← e9]
          simp [le2, HPL.out]
          omega
        rw [e9] at h9
        rw [l9]
        exact h9

end Go.Proofs.YtnopljjngbgpdabDoor
