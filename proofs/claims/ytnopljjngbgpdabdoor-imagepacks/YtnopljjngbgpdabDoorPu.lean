/-
  SEAT YtnopljjngbgpdabDoor: the reference's Pack.
-/
import Derived.Test.YtnopljjngbgpdabDoorPt
namespace Go.Proofs.YtnopljjngbgpdabDoor
open Go.RowKit
set_option linter.unusedVariables false

theorem zrun_byt {wk r : Nat} (h : wk ≤ 2) (hr : r < 65536) : ∀ x ∈ [((wk : Nat) : Int)] ++ le2 r, 0 ≤ x ∧ x ≤ 255 := by
  intro x hx
  rcases List.mem_append.1 hx with h8 | h8
  · rw [List.mem_singleton.1 h8]
    omega
  · exact le2_byt hr x h8
theorem ztold_byt {C : Nat} {P : List Int} (hC : C ≤ 2048) (h : ∀ x ∈ P, 0 ≤ x ∧ x ≤ 255) : ∀ x ∈ enc C ⟨1, 1, P⟩, 0 ≤ x ∧ x ≤ 255 := by
  intro x hx
  unfold enc at hx
  rw [if_pos rfl] at hx
  have hw := wrN_le (P.take C)
  rw [List.length_take] at hw
  rcases List.mem_append.1 hx with h8 | h8
  · rcases List.mem_append.1 h8 with h7 | h7
    · rw [List.mem_singleton.1 h7]
      omega
    · exact le2_byt (by simp only; omega) x h7
  · rcases List.mem_append.1 h8 with h7 | h7
    · exact h x (List.mem_of_mem_take h7)
    · exact h x (List.mem_of_mem_drop h7)
theorem ztold_len {C : Nat} {P : List Int} (hC : C ≤ P.length) : (enc C ⟨1, 1, P⟩).length ≤ 3 + P.length := by
  have hw := wrN_le (P.take C)
  rw [List.length_take] at hw
  unfold enc
  rw [if_pos rfl]
  simp [le2]
  omega
theorem enc_run2 (C wk r : Nat) (G : List Int) (h : wk ≠ 1) : enc C ⟨wk, r, G⟩ = [(wk : Int)] ++ le2 r := by
  unfold enc
  rw [if_neg h]
theorem encs_snoc (C : Nat) (ps : List Pc) (p : Pc) : encs C (ps ++ [p]) = encs C ps ++ enc C p := by
  rw [encs_append]
  simp [encs]
set_option maxHeartbeats 4000000 in
set_option maxRecDepth 100000 in
theorem rpack_ok (b p s : Nat) (a a' : Option Addr) (n c m c' : Nat) (xs : List Int) (ms : List Bool) (w : World) (L N : Nat) (hf : Fits (b : Int) (p : Int) (s : Int) = true) (hE : chkE (b : Int) (p : Int) (s : Int) n m = 0) (hr : Reads w a n xs) (hms : ReadsB w a' m ms) (hL : 256 * s + (54 + 3 * s) = L) (hN : b * p = N) (hn : n = N * L) (hm : m = b) :
    Calls Tryd.prog 21 #[.agg #[.int .i64 (b : Int), .int .i64 (p : Int), .int .i64 (s : Int), .slice a n c, .slice a' m c']] w fun e w' => ∃ g cc, e = .returned (.tuple #[.slice (some ⟨g, 0, none⟩) (packL ⟨b, p, s, xs, ms⟩).length cc, .int .i64 0]) ∧ Own w' w.heap.size g (packL ⟨b, p, s, xs, ms⟩).length cc (packL ⟨b, p, s, xs, ms⟩) ∧ Below w.heap.size w w' := by
  obtain ⟨q1, q2, q3, q4, q5, q6, q7⟩ := fits_nat hf
  have hNb : N ≤ 65536 := by omega
  have hLb : L ≤ 2200 := by omega
  have hnb : n ≤ 144179200 := by rw [hn]; exact Nat.mul_le_mul hNb hLb
  have HF : Hid (Fits (b : Int) (p : Int) (s : Int) = true) := hf
  have HE : Hid (chkE (b : Int) (p : Int) (s : Int) n m = 0) := hE
  have HR : Hid (Reads w a n xs) := hr
  have HMS : Hid (ReadsB w a' m ms) := hms
  have HL : Hid (256 * s + (54 + 3 * s) = L) := hL
  have HN : Hid (b * p = N) := hN
  have Hn : Hid (n = N * L) := hn
  have Hm : Hid (m = b) := hm
  have HLEN : Hid (∀ j, j < N → (pgK xs L j).length = L) := fun j hj => by
    unfold pgK
    have h8 := Nat.mul_le_mul_right L hj
    rw [← hn, Nat.succ_mul] at h8
    rw [List.length_take, List.length_drop, hr.1]
    omega
  have HBY : Hid (∀ x ∈ xs, 0 ≤ x ∧ x ≤ 255) := hr.2.1
  obtain ⟨C, hC⟩ : ∃ C, 256 * s = C := ⟨_, rfl⟩
  have HCC : Hid (256 * s = C) := hC
  have HCL : Hid (C ≤ L ∧ C ≤ 2048) := by unfold Hid; omega
  have wN : IntKind.i64.wrap ((b : Int) * (p : Int)) = (N : Int) := by rw [← Int.natCast_mul, hN, IntKind.wrap_i64]; omega
  have HM0 : Hid ((w.alloc (.cells #[.int .i64 (b : Int), .int .i64 (p : Int), .int .i64 (s : Int), .slice a n c, .slice a' m c'] 27)).heap[w.heap.size]? = some (.cells #[.int .i64 (b : Int), .int .i64 (p : Int), .int .i64 (s : Int), .slice a n c, .slice a' m c'] 27 (0, 0))) := heap_alloc_new w _
  have HB0 : Hid (Below w.heap.size w (w.alloc (.cells #[.int .i64 (b : Int), .int .i64 (p : Int), .int .i64 (s : Int), .slice a n c, .slice a' m c'] 27))) := below_alloc w _
  obtain ⟨x0, x1, x2, x3, x4⟩ := cells5 HM0.out
  obtain ⟨HDL, hHD⟩ : ∃ HDL, headL b p s ms = HDL := ⟨_, rfl⟩
  have HHD : Hid (headL b p s ms = HDL) := hHD
  have hHl : HDL.length ≤ 600 := by rw [← hHD, head_len, hms.1]; omega
  clear hf hE hr hms hL hN hn hm hC hHD q7
  go_enter Tryd.func21, Tryd.ntmps21
  go_wp2_with (first
    | (go_at_call 40; refine (rcheck_any b p s _ _ n _ m _ _ (by omega) (by have := Hm.out; omega)).mono ?_; rintro e u1 ⟨rfl, bl⟩; rw [HE.out]
       have HB1 : Hid (Below w.heap.size w u1) := below_trans HB0.out bl
       have HM1 : Hid (u1.heap[w.heap.size]? = some (.cells #[.int .i64 (b : Int), .int .i64 (p : Int), .int .i64 (s : Int), .slice a n c, .slice a' m c'] 27 (0, 0))) := (bl.block _ (lt_of_bk HM0.out)).trans HM0.out
       clear bl x0 x1 x2 x3 x4
       obtain ⟨x0, x1, x2, x3, x4⟩ := cells5 HM1.out)
    | (go_at_call 41; refine (rhead_any b p s a a' n c m c' ms _ HF.out Hm.out (HMS.out.below HB1.out)).mono ?_; rintro e u2 ⟨v2, rfl, own1, bl⟩; rw [HHD.out] at own1
       have HH2 : Hid (HdS w u2 #[.int .i64 (b : Int), .int .i64 (p : Int), .int .i64 (s : Int), .slice a n c, .slice a' m c'] v2 (HDL)) := ⟨ownsRow_base own1 HB1.out.size, (bl.block _ (lt_of_bk HM1.out)).trans HM1.out, below_trans HB1.out bl⟩
       clear own1 bl x0 x1 x2 x3 x4
       obtain ⟨x0, x1, x2, x3, x4⟩ := cells5 HH2.out.box))
  clear x0 x1 x2 x3 x4
  go_loopw [5, 6] (fun s5 s6 wr => ∃ (k : Nat) (ps : List Pc), k ≤ N ∧ s6 = .int .i64 (k : Int) ∧ Hid (PkS xs L N ps k) ∧ Hid ((HDL ++ encs C ps).length ≤ 600 + 2203 * k) ∧ Hid (HdS w wr #[.int .i64 (b : Int), .int .i64 (p : Int), .int .i64 (s : Int), .slice a n c, .slice a' m c'] s5 (HDL ++ encs C ps))) (fun _ i _ => N - (intOf i).toNat)
  case atStart => exact ⟨0, [], Nat.zero_le _, rfl, PkS.nil _ _ _, by rw [show HDL ++ encs C [] = HDL by simp [encs]]; exact hHl, by rw [show HDL ++ encs C [] = HDL by simp [encs]]; exact HH2.out⟩
  case round =>
    obtain ⟨k, ps, hk, rfl, HS, HXL0, HI0⟩ := hrel
    obtain ⟨X, hX⟩ : ∃ X, HDL ++ encs C ps = X := ⟨_, rfl⟩
    have HX : Hid (HDL ++ encs C ps = X) := hX
    have HXL : Hid (X.length ≤ 600 + 2203 * k) := by unfold Hid; rw [← hX]; exact HXL0.out
    have HI : Hid (HdS w wr #[.int .i64 (b : Int), .int .i64 (p : Int), .int .i64 (s : Int), .slice a n c, .slice a' m c'] u5 (X)) := by unfold Hid; rw [← hX]; exact HI0.out
    clear HXL0 HI0 hX
    obtain ⟨x0, x1, x2, x3, x4⟩ := cells5 HI.out.box
    by_cases hkN : k < N
    · have dk : (k : Int) < (N : Int) := by omega
      by_cases hkd : kindL xs L k = 1
      · have HZB : Hid (∀ x ∈ enc C ⟨1, 1, pgK xs L k⟩, 0 ≤ x ∧ x ≤ 255) := ztold_byt HCL.out.2 (pg_byt HBY.out)
        have HZL : Hid ((enc C ⟨1, 1, pgK xs L k⟩).length ≤ 2203) := by
          have h8 := HLEN.out k hkN
          have h9 := ztold_len (C := C) (P := pgK xs L k) (by rw [h8]; exact HCL.out.1)
          unfold Hid
          omega
        have wk1 : IntKind.i64.wrap ((k : Int) + 1) = (k : Int) + 1 := by rw [IntKind.wrap_i64]; omega
        have HNX : Hid (PkS xs L N (ps ++ [⟨1, 1, pgK xs L k⟩]) (k + 1)) := HS.out.told (by have := HL.out; omega) HLEN.out hkN hkd
        go_wp2_with (first
          | (go_at_call 42; refine (piece_told b p s a a' n c m c' xs _ k L N HF.out (HR.out.below HI.out.bel) HL.out HN.out Hn.out hkN hkd).mono ?_; rintro e u4 ⟨vv, rfl, own1, bl⟩
             rw [HCC.out] at own1
             obtain ⟨ad, cd, rfl, rd⟩ := own_any own1 HZB.out
             have HI4 : Hid (HdS w u4 #[.int .i64 (b : Int), .int .i64 (p : Int), .int .i64 (s : Int), .slice a n c, .slice a' m c'] u5 (X)) := HI.out.below bl
             have HD4 : Hid (Reads u4 ad (enc C ⟨1, 1, pgK xs L k⟩).length (enc C ⟨1, 1, pgK xs L k⟩)) := rd
             clear own1 bl rd x0 x1 x2 x3 x4
             obtain ⟨x0, x1, x2, x3, x4⟩ := cells5 HI4.out.box)
          | (at_builtin; refine wpList_append_reads rfl (.tmp 31) (.tmp 32) rfl w.heap.size u5 X.length X rfl HI4.out.row ad (enc C ⟨1, 1, pgK xs L k⟩).length cd (enc C ⟨1, 1, pgK xs L k⟩) rfl HD4.out (by have := HXL.out; have := HZL.out; omega) HI4.out.bel.size ?_; intro v6 w6 own2 grow2
             have HI6 : Hid (HdS w w6 #[.int .i64 (b : Int), .int .i64 (p : Int), .int .i64 (s : Int), .slice a n c, .slice a' m c'] v6 (X ++ (enc C ⟨1, 1, pgK xs L k⟩))) := HI4.out.app _ rfl own2 grow2
             clear own2 grow2 x0 x1 x2 x3 x4))
        go_roundw
        case rel =>
          refine ⟨k + 1, _, by omega, by go_num, HNX.out, ?_, ?_⟩
          · rw [encs_snoc, ← List.append_assoc, HX.out, List.length_append]
            have h8 := HXL.out
            have h9 := HZL.out
            unfold Hid
            omega
          · rw [encs_snoc, ← List.append_assoc, HX.out]
            exact HI6.out
        case measure => simp [intOf]; omega
      · go_upto_region 9 with (first
          | (go_at_call 42; refine (piece_run b p s a a' n c m c' xs _ k L N HF.out (HR.out.below HI.out.bel) HL.out HN.out Hn.out hkN hkd).mono ?_; rintro e u4 ⟨vv, r, rfl, own1, bl, run⟩
             have HRUN : Hid (RunAt xs L N k (kindL xs L k) r) := run
             have own1 : u4.ownsRow wr.heap.size 5 1 vv ([((kindL xs L k : Nat) : Int)] ++ le2 r).length (([((kindL xs L k : Nat) : Int)] ++ le2 r).map (Value.int .u8)) := own1
             clear run
             obtain ⟨ad, cd, rfl, rd⟩ := own_any own1 (zrun_byt (kind_le xs L k) (by have := HRUN.out.most; omega))
             have HI4 : Hid (HdS w u4 #[.int .i64 (b : Int), .int .i64 (p : Int), .int .i64 (s : Int), .slice a n c, .slice a' m c'] u5 (X)) := HI.out.below bl
             have HD4 : Hid (Reads u4 ad ([((kindL xs L k : Nat) : Int)] ++ le2 r).length ([((kindL xs L k : Nat) : Int)] ++ le2 r)) := rd
             clear own1 bl rd x0 x1 x2 x3 x4
             obtain ⟨x0, x1, x2, x3, x4⟩ := cells5 HI4.out.box)
          | (at_builtin; refine wpList_append_reads rfl (.tmp 31) (.tmp 32) rfl w.heap.size u5 X.length X rfl HI4.out.row ad ([((kindL xs L k : Nat) : Int)] ++ le2 r).length cd ([((kindL xs L k : Nat) : Int)] ++ le2 r) rfl HD4.out (by have := HXL.out; have := (show ([((kindL xs L k : Nat) : Int)] ++ le2 r).length ≤ 2203 by simp [le2]); omega) HI4.out.bel.size ?_; intro v6 w6 own2 grow2
             have HI6 : Hid (HdS w w6 #[.int .i64 (b : Int), .int .i64 (p : Int), .int .i64 (s : Int), .slice a n c, .slice a' m c'] v6 (X ++ ([((kindL xs L k : Nat) : Int)] ++ le2 r))) := HI4.out.app _ rfl own2 grow2
             clear own2 grow2 x0 x1 x2 x3 x4))
        obtain ⟨G, hG1, hG2⟩ := HS.out.run HLEN.out hkN rfl hkd HRUN.out
        have hroom := HRUN.out.room
        have wkr : IntKind.i64.wrap ((k : Int) + (r : Int)) = (k : Int) + (r : Int) := by rw [IntKind.wrap_i64]; omega
        have HNX : Hid (PkS xs L N (ps ++ [⟨kindL xs L k, r, G⟩]) (k + r)) := hG1
        have HEN : Hid (enc C ⟨kindL xs L k, r, G⟩ = [((kindL xs L k : Nat) : Int)] ++ le2 r) := enc_run2 _ _ _ _ hkd
        clear hG1
        go_wp2_with fail
        go_roundw
        case rel =>
          refine ⟨k + r, _, by omega, by go_num, HNX.out, ?_, ?_⟩
          · rw [encs_snoc, ← List.append_assoc, HX.out, HEN.out, List.length_append]
            have h8 := HXL.out
            have h9 : ([((kindL xs L k : Nat) : Int)] ++ le2 r).length = 3 := by simp [le2]
            unfold Hid
            omega
          · rw [encs_snoc, ← List.append_assoc, HX.out, HEN.out]
            exact HI6.out
        case measure => simp [intOf]; omega
    · have dk : ¬ (k : Int) < (N : Int) := by omega
      have hkk : k = N := by omega
      have HKK : Hid (k = N) := hkk
      have HXB : Hid (bodyL ⟨b, p, s, xs, ms⟩ = X) := by
        have h8 := HS.out
        rw [hkk] at h8
        have h9 := body_chain ⟨b, p, s, xs, ms⟩ ps (by show chain (256 * s + (54 + 3 * s)) _ _; rw [HL.out]; exact h8.ch) (by show pgs ps = chunks (256 * s + (54 + 3 * s)) (b * p) xs; rw [HL.out, HN.out]; exact h8.pg)
        rw [← HX.out, ← HHD.out, ← HCC.out]
        exact h9
      have HPK : Hid (packL ⟨b, p, s, xs, ms⟩ = sealL X) := by unfold Hid packL; rw [HXB.out]
      have HXY : Hid (∀ x ∈ X, 0 ≤ x ∧ x ≤ 255) := by
        have h9 := body_byt ⟨b, p, s, xs, ms⟩ ⟨HF.out, by show xs.length = b * p * (256 * s + (54 + 3 * s)); rw [HL.out, HN.out, ← Hn.out]; exact HR.out.1, by show ms.length = b; rw [← Hm.out]; exact HMS.out.1, HBY.out⟩
        rw [HXB.out] at h9
        exact h9
      obtain ⟨av, cv, hv, hrv⟩ := own_any HI.out.row HXY.out
      have HRV : Hid (Reads wr av X.length X) := hrv
      have hXl := HXL.out
      clear hkk hrv
      subst hv
      go_wp2_with (first
        | (go_at_call 43; refine (rsealed_any av X.length cv X _ HRV.out (by omega)).mono ?_; rintro e u7 ⟨g7, c7, rfl, own7, bl⟩
           have HO7 : Hid (Own u7 wr.heap.size g7 (X.length + 4) c7 (sealL X)) := own7
           have HB7 : Hid (Below w.heap.size w u7) := below_trans HI.out.bel bl
           clear own7 bl x0 x1 x2 x3 x4))
      go_ret2
      have l9 : (packL ⟨b, p, s, xs, ms⟩).length = X.length + 4 := by rw [HPK.out]; simp [sealL, le4]
      rw [l9, HPK.out]
      exact ⟨g7, c7, rfl, HO7.out.base HI.out.bel.size, HB7.out⟩

end Go.Proofs.YtnopljjngbgpdabDoor
