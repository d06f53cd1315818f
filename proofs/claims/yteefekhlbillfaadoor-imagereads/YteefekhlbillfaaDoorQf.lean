/-
  SEAT YteefekhlbillfaaDoor: the reference's Read: all pieces.
-/
import Derived.Test.YteefekhlbillfaaDoorQe
namespace Go.Proofs.YteefekhlbillfaaDoor
open Go.RowKit
set_option linter.unusedVariables false

def PsR (w w' : World) (e : Ending) (n : Nat) : Except Int (List Pc × List Int) → Prop
  | .error x => x ≠ 0 ∧ e = .returned (.tuple #[.slice none 0 0, .int .i64 0, .int .i64 x])
  | .ok (ps, t) => ∃ v, e = .returned (.tuple #[v, .int .i64 ((n - t.length : Nat) : Int), .int .i64 0]) ∧ t.length ≤ n ∧ w'.ownsRow w.heap.size 5 1 v ((pgs ps).flatten).length (((pgs ps).flatten).map (Value.int .u8))

theorem ext_nil (r : Except Int (List Pc × List Int)) : ext [] r = r := by
  cases r with
  | error e => rfl
  | ok y => rfl
theorem rep_byt (j : Nat) : ∀ x ∈ List.replicate j (255 : Int), 0 ≤ x ∧ x ≤ 255 := fun x hx => by rw [List.eq_of_mem_replicate hx]; omega
theorem run_not1 (a : Pc) (h : a.k ≤ 2) : ((1 : Int) == runI a) = false := by
  rw [beq_eq_false_iff_ne]
  unfold runI
  split <;> omega
theorem run_is {a : Pc} {k : Nat} (hk : k ≠ 1) (h : runI a = (k : Int)) : a.k = k ∧ 0 < a.n ∧ a.n < 65535 := by
  unfold runI at h
  split at h <;> omega
theorem run_not {a : Pc} {k : Nat} (hk : k ≠ 1) (hn : a.n ≤ 65535) (h : runI a ≠ (k : Int)) : (k != a.k || a.n == 0 || a.n == 65535) = true := by
  unfold runI at h
  rw [Bool.or_eq_true, Bool.or_eq_true, bne_iff_ne, beq_iff_eq, beq_iff_eq]
  split at h <;> omega
theorem stands0 {a : Pc} {m : Nat} {g : List Int} (hn : a.n ≤ 65535) : stands ⟨0, m, g⟩ a = decide (runI a ≠ 0) := by
  unfold stands
  rw [if_neg (by simp), if_neg (by simp)]
  by_cases h : runI a = 0
  · obtain ⟨h1, h2, h3⟩ := run_is (k := 0) (by decide) (by rw [h]; rfl)
    rw [decide_eq_false (by simpa using h), h1]
    simp
    omega
  · rw [decide_eq_true h]
    exact run_not (k := 0) (by decide) hn (by simpa using h)
theorem stands2 {a : Pc} {m : Nat} {g : List Int} (hn : a.n ≤ 65535) : stands ⟨2, m, g⟩ a = decide (a.k ≠ 0 ∧ runI a ≠ 2) := by
  unfold stands
  rw [if_neg (by simp)]
  by_cases h0 : a.k = 0
  · rw [if_pos ⟨rfl, h0⟩, decide_eq_false (fun h => h.1 h0)]
  · rw [if_neg (fun h => h0 h.2)]
    by_cases h : runI a = 2
    · obtain ⟨h1, h2, h3⟩ := run_is (k := 2) (by decide) (by rw [h]; rfl)
      rw [decide_eq_false (fun h9 => h9.2 h), h1]
      simp
      omega
    · rw [decide_eq_true ⟨h0, h⟩]
      exact run_not (k := 2) (by decide) hn (by simpa using h)
theorem stands1 {a : Pc} {m : Nat} {g : List Int} : stands ⟨1, m, g⟩ a = decide (blankB g = false ∧ g ≠ a.g) := by
  unfold stands
  rw [if_pos rfl]
  cases blankB g
  · by_cases h : g = a.g <;> simp [h]
  · simp
theorem run_ok (k m : Nat) (g : List Int) (hk : k ≠ 1) (hm : 1 ≤ m) (h : m < 65535) : runI ⟨k, m, g⟩ = (k : Int) := by
  unfold runI
  rw [if_pos ⟨hk, hm, h⟩]
theorem run_no (k m : Nat) (g : List Int) (h : k = 1 ∨ 65535 ≤ m) : runI ⟨k, m, g⟩ = -1 := by
  unfold runI
  rw [if_neg (by simp only; omega)]
theorem flatP_len (X P : List Int) (j k L : Nat) (hX : X.length = k * L) (hP : P.length = L) : (X ++ (List.replicate j P).flatten).length = (k + j) * L := by
  rw [List.length_append, hX, Nat.add_mul]
  congr 1
  induction j with
  | zero => simp
  | succ j ih => rw [List.replicate_succ, List.flatten_cons, List.length_append, ih, hP, Nat.succ_mul]; omega
theorem drewN_below (w : World) (k : Nat) : Below w.heap.size w (w.drewN k) := below_drewN (Below.refl _ w) k

set_option maxHeartbeats 16000000 in
set_option maxRecDepth 100000 in
theorem rpieces_any (a : Option Addr) (n c : Nat) (bs : List Int) (at0 b p s : Nat) (w : World) (hr : Reads w a n bs) (hn : n ≤ 140737488355000) (hat : at0 ≤ n) (hn0 : 0 < n) (hf : Fits (b : Int) (p : Int) (s : Int) = true) (C S N : Nat) (hC : 256 * s = C) (hS : 54 + 3 * s = S) (hN : b * p = N) :
    Calls Tryd.prog 29 #[.slice a n c, .int .i64 (at0 : Int), .agg #[.int .i64 (b : Int), .int .i64 (p : Int), .int .i64 (s : Int)]] w fun e w' => PsR w w' e n (rdPs C S N N Pc.z (bs.drop at0)) ∧ Below w.heap.size w w' := by
  obtain ⟨q1, q2, q3, q4, q5, q6, q7⟩ := fits_nat hf
  have hNb : N ≤ 65536 := by omega
  obtain ⟨L, hL⟩ : ∃ L, C + S = L := ⟨_, rfl⟩
  have hLb : L ≤ 2200 := by omega
  have hL0 : 0 < L := by omega
  have wN : IntKind.i64.wrap ((b : Int) * (p : Int)) = (N : Int) := by rw [← Int.natCast_mul, hN, IntKind.wrap_i64]; omega
  obtain ⟨bk, off, rfl, hbk, hcell⟩ := hr.pos hn0
  have HR : Hid (Reads w (some ⟨bk, off, none⟩) n bs) := hr
  have HBY : Hid (Byt bs) := hr.2.1
  have HLEN : Hid (bs.length = n) := hr.1
  have HC : Hid (256 * s = C) := hC
  have HS : Hid (54 + 3 * s = S) := hS
  have HL : Hid (C + S = L) := hL
  have hs1 : 1 ≤ s := q5
  have hs2 : s ≤ 8 := q6
  have LG : ∀ u : World, Calls Tryd.prog 50 #[.agg #[.int .i64 (b : Int), .int .i64 (p : Int), .int .i64 (s : Int)]] u fun e w' => e = .returned (.int .i64 (L : Int)) ∧ Below u.heap.size u w' := fun u => by
    have h9 := long_any (b : Int) (p : Int) (s : Int) u (by omega) (by omega)
    rw [show 256 * (s : Int) + (54 + 3 * (s : Int)) = (L : Int) by omega] at h9
    exact h9
  obtain ⟨R, hR⟩ : ∃ R, rdPs C S N N Pc.z (bs.drop at0) = R := ⟨_, rfl⟩
  have HRR0 : Hid (ext [] (rdPs C S N N Pc.z (bs.drop at0)) = R) := (ext_nil _).trans hR
  rw [hR]
  have HM0 : Hid ((w.alloc (.cells #[.int .i64 (b : Int), .int .i64 (p : Int), .int .i64 (s : Int)] 27)).heap[w.heap.size]? = some (.cells #[.int .i64 (b : Int), .int .i64 (p : Int), .int .i64 (s : Int)] 27 (0, 0))) := heap_alloc_new w _
  obtain ⟨x0, x1, x2, x3, x4, x5⟩ := blk3_cells HM0.out
  clear x3 x4 x5 hr hC hS hL hR hN hcell q1 q2 q3 q4 q5 q6 q7 hf
  go_enter Tryd.func29, Tryd.ntmps29
  go_wp2_with fail
  clear x0 x1 x2
  go_loopw [1, 10, 11, 12, 13] (fun s1 s10 s11 s12 s13 wr => ∃ (k f at_ : Nat) (ps : List Pc) (a1 : Pc) (ad : Option Addr) (cd gl : Nat) (rv : Int), k ≤ N ∧ N - k ≤ f ∧ at_ ≤ n ∧ s13 = .int .i64 (k : Int) ∧ s1 = .int .i64 (at_ : Int) ∧ s12 = .int .i64 rv ∧ s11 = .slice ad gl cd ∧ Hid (runI a1 = rv) ∧ Hid (a1.g.length = gl) ∧ Hid (PsAt w wr #[.int .i64 (b : Int), .int .i64 (p : Int), .int .i64 (s : Int)] s10 ((pgs ps).flatten) ad a1.g) ∧ Hid (PcOk a1 L) ∧ Hid (((pgs ps).flatten).length = k * L) ∧ Hid (ext ps (rdPs C S f (N - k) a1 (bs.drop at_)) = R)) (fun _ _ _ _ s13 _ => N - (intOf s13).toNat)
  case atStart => exact ⟨0, N, at0, [], Pc.z, none, 0, 0, -1, Nat.zero_le _, by omega, hat, rfl, rfl, rfl, rfl, rfl, rfl, ⟨World.ownsRow_nil _ _ _ _, ⟨rfl, fun x hx => (by cases hx), fun _ => rfl, fun x hx => (by cases hx)⟩, fun q hq => (by cases hq), HM0.out, below_alloc w _⟩, ⟨by decide, by decide, rfl, Or.inl rfl, fun x hx => (by cases hx)⟩, by simp [Hid, pgs], by rw [Nat.sub_zero]; exact HRR0.out⟩
  case round =>
    clear HM0 HRR0
    obtain ⟨k, f, at_, ps, a1, ad, cd, gl, rv, hk, hkf, hat1, rfl, rfl, rfl, rfl, HRV, HGL, HP0, HOK, HX0, HE⟩ := hrel
    obtain ⟨X, hX⟩ : ∃ X, (pgs ps).flatten = X := ⟨_, rfl⟩
    have HXX : Hid ((pgs ps).flatten = X) := hX
    have HP : Hid (PsAt w wr #[.int .i64 (b : Int), .int .i64 (p : Int), .int .i64 (s : Int)] u10 X ad a1.g) := by unfold Hid; rw [← hX]; exact HP0.out
    have HX : Hid (X.length = k * L) := by unfold Hid; rw [← hX]; exact HX0.out
    have hgl : gl ≤ 2200 := by
      have h8 := HGL.out
      rcases HOK.out.len with h9 | h9
      · rw [h9] at h8
        change 0 = gl at h8
        omega
      · omega
    have hrb : -1 ≤ rv ∧ rv ≤ 2 := by have h9 := HRV.out; have h8 := HOK.out.kind; unfold runI at h9; split at h9 <;> omega
    clear HP0 HX0 hX
    obtain ⟨x0, x1, x2, x3, x4, x5⟩ := blk3_cells HP.out.box
    clear x3 x4 x5
    by_cases hkN : k < N
    · have dk : (k : Int) < (N : Int) := by omega
      obtain ⟨f', rfl⟩ : ∃ f', f = f' + 1 := ⟨f - 1, by omega⟩
      obtain ⟨lf, hlf⟩ : ∃ lf, N - k = lf := ⟨_, rfl⟩
      have elf : (N : Int) - (k : Int) = (lf : Int) := by omega
      have HLF : Hid (N - k = lf) := hlf
      have hl0 : lf ≠ 0 := by omega
      have hlf2 : lf ≤ 65536 := by omega
      rw [hlf] at HE
      clear hlf
      cases hra : rdAt C S lf at_ bs with
      | error x =>
        have HRA : Hid (rdAt C S lf at_ bs = .error x) := hra
        have HRR : Hid (R = .error x) := by
          unfold Hid
          rw [← HE.out]
          exact ext_err hl0 (by rw [rd_link, hra])
        clear hra HE
        go_wp2_with (first
          | (go_at_call 49; refine (rpiece_any (some ⟨bk, off, none⟩) n c bs at_ b p s lf _ (HR.out.below HP.out.bel) hn hat1 hs1 hs2 hlf2 C S HC.out HS.out).mono ?_; rintro e t1 ⟨res, bl⟩; rw [HRA.out] at res; obtain ⟨hx0, rfl⟩ := res
             have hx1 : (x == 0) = false := (by rw [beq_eq_false_iff_ne]; exact hx0)
             have HB1 : Hid (Below w.heap.size w t1) := below_trans HP.out.bel bl
             clear bl x0 x1 x2))
        exact bodyPost_ret (v := .tuple #[.slice none 0 0, .int .i64 0, .int .i64 x]) (by simp [results, Tryd.results29, go_sem]) rfl ⟨by rw [HRR.out]; exact ⟨hx0, rfl⟩, HB1.out⟩
      | ok y =>
        obtain ⟨kd, m, pg, nx⟩ := y
        obtain ⟨hl3, hkd, hnx, hcase⟩ := rdAt_facts HBY.out hra
        have d2 : (at_ : Int) < (n : Int) := by have := HLEN.out; omega
        have hd2 : at_ < n := by omega
        have HRA : Hid (rdAt C S lf at_ bs = .ok (kd, m, pg, nx)) := hra
        have HNX : Hid (nx ≤ n) := by have := HLEN.out; unfold Hid; omega
        have HKD : Hid (bs.getD at_ 0 = (kd : Int)) := hkd
        have HLK := rd_link C S lf at_ bs
        rw [hra] at HLK
        simp only at HLK
        have HLK : Hid _ := HLK
        rcases hcase with ⟨rfl, rfl, hm1, hm2, hm3⟩ | ⟨rfl, rfl, hm1, hm2, hm3⟩ | ⟨rfl, rfl, hc1, hpl, htk, htl, hpb⟩
        · clear hl3 hkd hnx hra
          have HPC : Hid (rdPiece C S lf (bs.drop at_) = .ok (⟨0, m, []⟩, bs.drop nx)) := by unfold Hid; rw [HLK.out, if_neg (fun h => by cases h.1)]
          by_cases hst : rv = 0
          · have HRR : Hid (R = .error 47) := by
              unfold Hid
              rw [← HE.out]
              exact ext_bad hl0 HPC.out (by rw [stands0 HOK.out.cnt]; exact decide_eq_false (fun h => h (by rw [HRV.out]; exact hst)))
            subst hst
            clear HE
            go_wp2_with (first
              | (go_at_call 49; refine (rpiece_any (some ⟨bk, off, none⟩) n c bs at_ b p s lf _ (HR.out.below HP.out.bel) hn hat1 hs1 hs2 hlf2 C S HC.out HS.out).mono ?_; rintro e t1 ⟨res, bl⟩; rw [HRA.out] at res; obtain ⟨v1, rfl, own1⟩ := res
                 have HP1 : Hid (PsAt w t1 #[.int .i64 (b : Int), .int .i64 (p : Int), .int .i64 (s : Int)] u10 X ad a1.g) := HP.out.below bl
                 have k0 : t1.cell? ⟨bk, off + at_, none⟩ = some (.int .u8 0) := by have h9 := (HR.out.below HP1.out.bel).at at_ hd2; rw [HKD.out] at h9; exact h9
                 clear own1 bl x0 x1 x2
                 obtain ⟨x0, x1, x2, x3, x4, x5⟩ := blk3_cells HP1.out.box
                 clear x3 x4 x5))
            exact bodyPost_ret (v := .tuple #[.slice none 0 0, .int .i64 0, .int .i64 47]) (by simp [results, Tryd.results29, go_sem]) rfl ⟨by rw [HRR.out]; exact ⟨by decide, rfl⟩, HP1.out.bel⟩
          · have e11 : ((0 : Int) == rv) = false := by rw [beq_eq_false_iff_ne]; omega
            have HNEW : Hid (ext (ps ++ [(⟨0, m, List.replicate L (255 : Int)⟩ : Pc)]) (rdPs C S f' (lf - m) ⟨0, m, List.replicate L (255 : Int)⟩ (bs.drop nx)) = R) := by
              have h9 := ext_step (f := f') (ps := ps) (a := a1) hl0 HPC.out (by rw [stands0 HOK.out.cnt]; exact decide_eq_true (fun h => hst (by rw [← HRV.out]; exact h)))
              rw [HE.out] at h9
              rw [show fillP (C + S) a1 ⟨0, m, []⟩ = ⟨0, m, List.replicate L 255⟩ by unfold fillP; rw [if_pos rfl, HL.out]] at h9
              exact h9.symm
            have HNEW2 : Hid (PcOk (⟨0, m, List.replicate L (255 : Int)⟩ : Pc) L) := ⟨by simp, hm3, by rw [blank_rep]; rfl, Or.inr List.length_replicate, rep_byt L⟩
            have HPL : Hid ((List.replicate L (255 : Int)).length = L) := List.length_replicate
            clear HE
            go_wp2_with (first
              | (go_at_call 49; refine (rpiece_any (some ⟨bk, off, none⟩) n c bs at_ b p s lf _ (HR.out.below HP.out.bel) hn hat1 hs1 hs2 hlf2 C S HC.out HS.out).mono ?_; rintro e t1 ⟨res, bl⟩; rw [HRA.out] at res; obtain ⟨v1, rfl, own1⟩ := res
                 have HP1 : Hid (PsAt w t1 #[.int .i64 (b : Int), .int .i64 (p : Int), .int .i64 (s : Int)] u10 X ad a1.g) := HP.out.below bl
                 have k0 : t1.cell? ⟨bk, off + at_, none⟩ = some (.int .u8 0) := by have h9 := (HR.out.below HP1.out.bel).at at_ hd2; rw [HKD.out] at h9; exact h9
                 clear own1 bl x0 x1 x2
                 obtain ⟨x0, x1, x2, x3, x4, x5⟩ := blk3_cells HP1.out.box
                 clear x3 x4 x5))
            clear x0 x1 x2 k0
            go_loopg [14] L (fun gh s14 wr => ∃ j : Nat, j ≤ L ∧ L - j ≤ gh ∧ Hid (wr.ownsRow t1.heap.size 5 1 s14 j ((List.replicate j (255 : Int)).map (Value.int .u8))) ∧ Hid (Below t1.heap.size t1 wr))
            case atStart => exact ⟨0, by omega, by omega, World.ownsRow_nil _ _ _ _, Below.refl _ _⟩
            case round =>
              obtain ⟨j, hj, hjg, HO, HB⟩ := hrel
              have HPj : Hid (PsAt w wr #[.int .i64 (b : Int), .int .i64 (p : Int), .int .i64 (s : Int)] u10 X ad a1.g) := HP1.out.below HB.out
              obtain ⟨x0, x1, x2, x3, x4, x5⟩ := blk3_cells HPj.out.box
              clear x3 x4 x5
              by_cases hjl : j < L
              · obtain ⟨ap, cp, rfl, rd⟩ := own_any HO.out (rep_byt j)
                clear rd
                have dl : (j : Int) < (L : Int) := by omega
                go_wp2_with (first
                  | (go_at_call 50; refine (LG _).mono ?_; rintro e t2 ⟨rfl, bl⟩
                     have HB2 : Hid (Below t1.heap.size t1 t2) := below_trans HB.out bl
                     have HO2 : Hid (t2.ownsRow t1.heap.size 5 1 (.slice ap j cp) j ((List.replicate j (255 : Int)).map (Value.int .u8))) := row_below HO.out bl
                     clear bl x0 x1 x2)
                  | (at_builtin; refine wpList_append_reads rfl (.tmp 93) (.tmp 94) rfl t1.heap.size (.slice ap j cp) j (List.replicate j (255 : Int)) rfl (HO2.out.alloc _) _ 1 1 [255] rfl (reads_new t2 [255] (by intro x hx; rw [List.mem_singleton.1 hx]; omega)) (by omega) (by have := HB2.out.size; simp; omega) ?_; intro v4 w4 own2 grow2
                     have HB4 : Hid (Below t1.heap.size t1 w4) := (HB2.out.alloc HB2.out.size _).grown grow2 (by have := HB2.out.size; simp; omega) (fun q hq => (HO2.out.lt q hq).1)
                     have HO4 : Hid (w4.ownsRow t1.heap.size 5 1 v4 (j + 1) ((List.replicate (j + 1) (255 : Int)).map (Value.int .u8))) := by unfold Hid; rw [List.replicate_succ']; exact own2
                     clear own2 grow2))
                go_roundg (L - (j + 1))
                case measure => omega
                case rel => exact ⟨j + 1, by omega, Nat.le_refl _, HO4.out, HB4.out⟩
              · have dl : ¬ (j : Int) < (L : Int) := by omega
                have HOL : Hid (wr.ownsRow t1.heap.size 5 1 u14 L ((List.replicate L (255 : Int)).map (Value.int .u8))) := by have h9 := HO.out; rw [show j = L by omega] at h9; exact h9
                clear HO dl
                have dl : ¬ (L : Int) < (L : Int) := by omega
                obtain ⟨pb, cp, rfl, hcp1, hcp2, hpb1, hpb2⟩ := own_shape HOL.out hL0
                have HRP : Hid (Reads wr (some ⟨pb, 0, none⟩) L (List.replicate L (255 : Int))) := by
                  have h9 := Own.reads (w := wr) (B := t1.heap.size) (g := pb) (n := L) (cap := cp) (xs := List.replicate L (255 : Int)) HOL.out (rep_byt L) L (Nat.le_refl _)
                  rw [List.take_of_length_le (by rw [List.length_replicate]; omega)] at h9
                  exact h9
                go_wp2_with (first
                  | (go_at_call 50; refine (LG _).mono ?_; rintro e t3 ⟨rfl, bl⟩
                     have HPT : Hid (PsAt w t3 #[.int .i64 (b : Int), .int .i64 (p : Int), .int .i64 (s : Int)] u10 X (some ⟨pb, 0, none⟩) (List.replicate L (255 : Int))) := HP1.out.last (below_trans HB.out bl) (by rw [List.length_replicate]; exact HRP.out.below bl) hpb1 (Nat.lt_of_lt_of_le hpb2 bl.size)
                     clear bl x0 x1 x2))
                clear HRP HOL HB hcp1 hcp2 hpb1 hpb2 hjg hj hjl dl
                go_loopw [10, 20] (fun s10 s20 wr => ∃ j : Nat, j ≤ m ∧ s20 = .int .i64 (j : Int) ∧ Hid (PsAt w wr #[.int .i64 (b : Int), .int .i64 (p : Int), .int .i64 (s : Int)] s10 (X ++ (List.replicate j (List.replicate L (255 : Int))).flatten) (some ⟨pb, 0, none⟩) (List.replicate L (255 : Int)))) (fun _ i _ => m - (intOf i).toNat)
                case atStart => exact ⟨0, Nat.zero_le _, rfl, by rw [List.replicate_zero, List.flatten_nil, List.append_nil]; exact HPT.out⟩
                case round =>
                  obtain ⟨j, hj, rfl, HQ0⟩ := hrel
                  obtain ⟨Y, hY⟩ : ∃ Y, X ++ (List.replicate j (List.replicate L (255 : Int))).flatten = Y := ⟨_, rfl⟩
                  have HY : Hid (X ++ (List.replicate j (List.replicate L (255 : Int))).flatten = Y) := hY
                  have HQ : Hid (PsAt w wr #[.int .i64 (b : Int), .int .i64 (p : Int), .int .i64 (s : Int)] u10 Y (some ⟨pb, 0, none⟩) (List.replicate L (255 : Int))) := by unfold Hid; rw [← hY]; exact HQ0.out
                  have HYL : Hid (Y.length = (k + j) * L) := by unfold Hid; rw [← hY]; exact flatP_len X _ j k L HX.out HPL.out
                  clear HQ0 hY
                  by_cases hjm : j < m
                  · have dj : (j : Int) < (m : Int) := by omega
                    have hYb : Y.length ≤ 144179200 := by rw [HYL.out]; exact Nat.mul_le_mul (by have := HLF.out; omega : k + j ≤ 65536) hLb
                    have HLS : Hid (Reads wr (some ⟨pb, 0, none⟩) L (List.replicate L (255 : Int))) := by have h9 := HQ.out.lst; rw [HPL.out] at h9; exact h9
                    go_wp2_with (first
                      | (at_builtin; refine wpList_append_at rfl (.tmp 111) (.tmp 112) rfl (w.heap.size + 1) u10 Y.length Y rfl HQ.out.row ⟨pb, 0, none⟩ L cp (List.replicate L (255 : Int)) rfl HLS.out (by omega) (lt_of_bk HQ.out.box) ?_; intro v8 w8 own8 grow8 at8
                         have HQ8 : Hid (PsAt w w8 #[.int .i64 (b : Int), .int .i64 (p : Int), .int .i64 (s : Int)] v8 (Y ++ (List.replicate L (255 : Int))) (some ⟨pb, 0, none⟩) (List.replicate L (255 : Int))) := HQ.out.app L HPL.out own8 grow8 at8
                         clear own8 grow8 at8))
                    go_roundw
                    case rel => exact ⟨j + 1, by omega, by go_num, by rw [← flat_snoc, HY.out]; exact HQ8.out⟩
                    case measure => simp [intOf]; omega
                  · have dj : ¬ (j : Int) < (m : Int) := by omega
                    have HYM : Hid (X ++ (List.replicate m (List.replicate L (255 : Int))).flatten = Y) := by unfold Hid; rw [show m = j by omega]; exact HY.out
                    have HYL2 : Hid (Y.length = (k + m) * L) := by unfold Hid; rw [show m = j by omega]; exact HYL.out
                    clear HY HYL hj
                    by_cases hm9 : m < 65535
                    · have dm9 : (m : Int) < 65535 := by omega
                      go_wp2_with fail
                      go_roundw
                      case rel => exact ⟨k + m, f', nx, ps ++ [(⟨0, m, List.replicate L (255 : Int)⟩ : Pc)], (⟨0, m, List.replicate L (255 : Int)⟩ : Pc), some ⟨pb, 0, none⟩, cp, L, 0, by have := HLF.out; omega, by have := HLF.out; omega, HNX.out, by go_num, rfl, rfl, rfl, run_ok 0 m _ (by decide) hm1 hm9, HPL.out, by rw [pgs_snoc, HXX.out, HYM.out]; exact HQ.out, HNEW2.out, by rw [pgs_snoc, HXX.out, HYM.out]; exact HYL2.out, by rw [show N - (k + m) = lf - m by have := HLF.out; omega]; exact HNEW.out⟩
                      case measure => simp [intOf]; have := HLF.out; omega
                    · have dm9 : ¬ (m : Int) < 65535 := by omega
                      go_wp2_with fail
                      go_roundw
                      case rel => exact ⟨k + m, f', nx, ps ++ [(⟨0, m, List.replicate L (255 : Int)⟩ : Pc)], (⟨0, m, List.replicate L (255 : Int)⟩ : Pc), some ⟨pb, 0, none⟩, cp, L, (-1), by have := HLF.out; omega, by have := HLF.out; omega, HNX.out, by go_num, rfl, rfl, rfl, run_no 0 m _ (Or.inr (by omega)), HPL.out, by rw [pgs_snoc, HXX.out, HYM.out]; exact HQ.out, HNEW2.out, by rw [pgs_snoc, HXX.out, HYM.out]; exact HYL2.out, by rw [show N - (k + m) = lf - m by have := HLF.out; omega]; exact HNEW.out⟩
                      case measure => simp [intOf]; have := HLF.out; omega
        · clear hl3 hkd hnx hra
          have HPC : Hid (rdPiece C S lf (bs.drop at_) = .ok (⟨2, m, []⟩, bs.drop nx)) := by unfold Hid; rw [HLK.out, if_neg (fun h => by cases h.1)]
          by_cases hst : rv = 2
          · have HRR : Hid (R = .error 47) := by
              unfold Hid
              rw [← HE.out]
              exact ext_bad hl0 HPC.out (by rw [stands2 HOK.out.cnt]; exact decide_eq_false (fun h => h.2 (by rw [HRV.out]; exact hst)))
            subst hst
            clear HE
            go_wp2_with (first
              | (go_at_call 49; refine (rpiece_any (some ⟨bk, off, none⟩) n c bs at_ b p s lf _ (HR.out.below HP.out.bel) hn hat1 hs1 hs2 hlf2 C S HC.out HS.out).mono ?_; rintro e t1 ⟨res, bl⟩; rw [HRA.out] at res; obtain ⟨v1, rfl, own1⟩ := res
                 have HP1 : Hid (PsAt w t1 #[.int .i64 (b : Int), .int .i64 (p : Int), .int .i64 (s : Int)] u10 X ad a1.g) := HP.out.below bl
                 have k0 : t1.cell? ⟨bk, off + at_, none⟩ = some (.int .u8 2) := by have h9 := (HR.out.below HP1.out.bel).at at_ hd2; rw [HKD.out] at h9; exact h9
                 clear own1 bl x0 x1 x2
                 obtain ⟨x0, x1, x2, x3, x4, x5⟩ := blk3_cells HP1.out.box
                 clear x3 x4 x5))
            exact bodyPost_ret (v := .tuple #[.slice none 0 0, .int .i64 0, .int .i64 47]) (by simp [results, Tryd.results29, go_sem]) rfl ⟨by rw [HRR.out]; exact ⟨by decide, rfl⟩, HP1.out.bel⟩
          · have e11 : ((2 : Int) == rv) = false := by rw [beq_eq_false_iff_ne]; omega
            by_cases ha0 : a1.k = 0
            · have HRR : Hid (R = .error 47) := by
                unfold Hid
                rw [← HE.out]
                exact ext_bad hl0 HPC.out (by rw [stands2 HOK.out.cnt]; exact decide_eq_false (fun h => h.1 ha0))
              have HBK : Hid (blankB a1.g = true) := by unfold Hid; rw [HOK.out.blk]; exact decide_eq_true ha0
              clear HE ha0
              by_cases hg0 : gl = 0
              · have e12 : (gl : Int) = 0 := by omega
                have e13 : ((gl : Int) == 0) = true := by rw [e12]; rfl
                clear e12
                go_wp2_with (first
                  | (go_at_call 49; refine (rpiece_any (some ⟨bk, off, none⟩) n c bs at_ b p s lf _ (HR.out.below HP.out.bel) hn hat1 hs1 hs2 hlf2 C S HC.out HS.out).mono ?_; rintro e t1 ⟨res, bl⟩; rw [HRA.out] at res; obtain ⟨v1, rfl, own1⟩ := res
                     have HP1 : Hid (PsAt w t1 #[.int .i64 (b : Int), .int .i64 (p : Int), .int .i64 (s : Int)] u10 X ad a1.g) := HP.out.below bl
                     have k0 : t1.cell? ⟨bk, off + at_, none⟩ = some (.int .u8 2) := by have h9 := (HR.out.below HP1.out.bel).at at_ hd2; rw [HKD.out] at h9; exact h9
                     clear own1 bl x0 x1 x2
                     obtain ⟨x0, x1, x2, x3, x4, x5⟩ := blk3_cells HP1.out.box
                     clear x3 x4 x5))
                exact bodyPost_ret (v := .tuple #[.slice none 0 0, .int .i64 0, .int .i64 47]) (by simp [results, Tryd.results29, go_sem]) rfl ⟨by rw [HRR.out]; exact ⟨by decide, rfl⟩, HP1.out.bel⟩
              · have e13 : ((gl : Int) == 0) = false := by rw [beq_eq_false_iff_ne]; omega
                go_wp2_with (first
                  | (go_at_call 49; refine (rpiece_any (some ⟨bk, off, none⟩) n c bs at_ b p s lf _ (HR.out.below HP.out.bel) hn hat1 hs1 hs2 hlf2 C S HC.out HS.out).mono ?_; rintro e t1 ⟨res, bl⟩; rw [HRA.out] at res; obtain ⟨v1, rfl, own1⟩ := res
                     have HP1 : Hid (PsAt w t1 #[.int .i64 (b : Int), .int .i64 (p : Int), .int .i64 (s : Int)] u10 X ad a1.g) := HP.out.below bl
                     have k0 : t1.cell? ⟨bk, off + at_, none⟩ = some (.int .u8 2) := by have h9 := (HR.out.below HP1.out.bel).at at_ hd2; rw [HKD.out] at h9; exact h9
                     clear own1 bl x0 x1 x2
                     obtain ⟨x0, x1, x2, x3, x4, x5⟩ := blk3_cells HP1.out.box
                     clear x3 x4 x5)
                  | (go_at_call 51; refine (rblank_any ad gl cd (a1.g) _ (by omega) (by have h9 := HP1.out.lst; rw [HGL.out] at h9; exact h9)).mono ?_; rintro e t5 ⟨rfl, ht5⟩; rw [ht5, HBK.out]; clear ht5))
                exact bodyPost_ret (v := .tuple #[.slice none 0 0, .int .i64 0, .int .i64 47]) (by simp [results, Tryd.results29, go_sem]) rfl ⟨by rw [HRR.out]; exact ⟨by decide, rfl⟩, HP1.out.bel⟩
            · have HBK : Hid (blankB a1.g = false) := by unfold Hid; rw [HOK.out.blk]; exact decide_eq_false ha0
              have hgL : gl = L := by
                rcases HOK.out.len with h9 | h9
                · have h8 := HBK.out
                  rw [h9] at h8
                  cases h8
                · rw [← HGL.out]; exact h9
              have HPL : Hid (a1.g.length = L) := by unfold Hid; rw [HGL.out]; exact hgL
              have HNEW : Hid (ext (ps ++ [(⟨2, m, a1.g⟩ : Pc)]) (rdPs C S f' (lf - m) ⟨2, m, a1.g⟩ (bs.drop nx)) = R) := by
                have h9 := ext_step (f := f') (ps := ps) (a := a1) hl0 HPC.out (by rw [stands2 HOK.out.cnt]; exact decide_eq_true ⟨ha0, fun h => hst (by rw [← HRV.out]; exact h)⟩)
                rw [HE.out] at h9
                exact h9.symm
              have HNEW2 : Hid (PcOk (⟨2, m, a1.g⟩ : Pc) L) := ⟨by simp, hm3, HBK.out, Or.inr HPL.out, HOK.out.byt⟩
              rw [hgL] at HGL ⊢
              clear HE ha0 hgL hgl
              have e13 : ((L : Int) == 0) = false := by rw [beq_eq_false_iff_ne]; omega
              obtain ⟨pb, po, rfl, hpb1, hpc⟩ := HP.out.lst.pos (by rw [HPL.out]; exact hL0)
              clear hpc hpb1
              go_wp2_with (first
                | (go_at_call 49; refine (rpiece_any (some ⟨bk, off, none⟩) n c bs at_ b p s lf _ (HR.out.below HP.out.bel) hn hat1 hs1 hs2 hlf2 C S HC.out HS.out).mono ?_; rintro e t1 ⟨res, bl⟩; rw [HRA.out] at res; obtain ⟨v1, rfl, own1⟩ := res
                   have HP1 : Hid (PsAt w t1 #[.int .i64 (b : Int), .int .i64 (p : Int), .int .i64 (s : Int)] u10 X (some ⟨pb, po, none⟩) a1.g) := HP.out.below bl
                   have k0 : t1.cell? ⟨bk, off + at_, none⟩ = some (.int .u8 2) := by have h9 := (HR.out.below HP1.out.bel).at at_ hd2; rw [HKD.out] at h9; exact h9
                   clear own1 bl x0 x1 x2
                   obtain ⟨x0, x1, x2, x3, x4, x5⟩ := blk3_cells HP1.out.box
                   clear x3 x4 x5)
                | (go_at_call 51; refine (rblank_any (some ⟨pb, po, none⟩) L cd (a1.g) _ (by omega) (by have h9 := HP1.out.lst; rw [HPL.out] at h9; exact h9)).mono ?_; rintro e t5 ⟨rfl, ht5⟩; rw [ht5, HBK.out]; clear ht5))
              clear x0 x1 x2 k0
              go_loopw [10, 20] (fun s10 s20 wr => ∃ j : Nat, j ≤ m ∧ s20 = .int .i64 (j : Int) ∧ Hid (PsAt w wr #[.int .i64 (b : Int), .int .i64 (p : Int), .int .i64 (s : Int)] s10 (X ++ (List.replicate j (a1.g)).flatten) (some ⟨pb, po, none⟩) (a1.g))) (fun _ i _ => m - (intOf i).toNat)
              case atStart => exact ⟨0, Nat.zero_le _, rfl, by rw [List.replicate_zero, List.flatten_nil, List.append_nil]; exact HP1.out⟩
              case round =>
                obtain ⟨j, hj, rfl, HQ0⟩ := hrel
                obtain ⟨Y, hY⟩ : ∃ Y, X ++ (List.replicate j (a1.g)).flatten = Y := ⟨_, rfl⟩
                have HY : Hid (X ++ (List.replicate j (a1.g)).flatten = Y) := hY
                have HQ : Hid (PsAt w wr #[.int .i64 (b : Int), .int .i64 (p : Int), .int .i64 (s : Int)] u10 Y (some ⟨pb, po, none⟩) (a1.g)) := by unfold Hid; rw [← hY]; exact HQ0.out
                have HYL : Hid (Y.length = (k + j) * L) := by unfold Hid; rw [← hY]; exact flatP_len X _ j k L HX.out HPL.out
                clear HQ0 hY
                by_cases hjm : j < m
                · have dj : (j : Int) < (m : Int) := by omega
                  have hYb : Y.length ≤ 144179200 := by rw [HYL.out]; exact Nat.mul_le_mul (by have := HLF.out; omega : k + j ≤ 65536) hLb
                  have HLS : Hid (Reads wr (some ⟨pb, po, none⟩) L (a1.g)) := by have h9 := HQ.out.lst; rw [HPL.out] at h9; exact h9
                  go_wp2_with (first
                    | (at_builtin; refine wpList_append_at rfl (.tmp 111) (.tmp 112) rfl (w.heap.size + 1) u10 Y.length Y rfl HQ.out.row ⟨pb, po, none⟩ L cd (a1.g) rfl HLS.out (by omega) (lt_of_bk HQ.out.box) ?_; intro v8 w8 own8 grow8 at8
                       have HQ8 : Hid (PsAt w w8 #[.int .i64 (b : Int), .int .i64 (p : Int), .int .i64 (s : Int)] v8 (Y ++ (a1.g)) (some ⟨pb, po, none⟩) (a1.g)) := HQ.out.app L HPL.out own8 grow8 at8
                       clear own8 grow8 at8))
                  go_roundw
                  case rel => exact ⟨j + 1, by omega, by go_num, by rw [← flat_snoc, HY.out]; exact HQ8.out⟩
                  case measure => simp [intOf]; omega
                · have dj : ¬ (j : Int) < (m : Int) := by omega
                  have HYM : Hid (X ++ (List.replicate m (a1.g)).flatten = Y) := by unfold Hid; rw [show m = j by omega]; exact HY.out
                  have HYL2 : Hid (Y.length = (k + m) * L) := by unfold Hid; rw [show m = j by omega]; exact HYL.out
                  clear HY HYL hj
                  by_cases hm9 : m < 65535
                  · have dm9 : (m : Int) < 65535 := by omega
                    go_wp2_with fail
                    go_roundw
                    case rel => exact ⟨k + m, f', nx, ps ++ [(⟨2, m, a1.g⟩ : Pc)], (⟨2, m, a1.g⟩ : Pc), some ⟨pb, po, none⟩, cd, L, 2, by have := HLF.out; omega, by have := HLF.out; omega, HNX.out, by go_num, rfl, rfl, rfl, run_ok 2 m _ (by decide) hm1 hm9, HPL.out, by rw [pgs_snoc, HXX.out, HYM.out]; exact HQ.out, HNEW2.out, by rw [pgs_snoc, HXX.out, HYM.out]; exact HYL2.out, by rw [show N - (k + m) = lf - m by have := HLF.out; omega]; exact HNEW.out⟩
                    case measure => simp [intOf]; have := HLF.out; omega
                  · have dm9 : ¬ (m : Int) < 65535 := by omega
                    go_wp2_with fail
                    go_roundw
                    case rel => exact ⟨k + m, f', nx, ps ++ [(⟨2, m, a1.g⟩ : Pc)], (⟨2, m, a1.g⟩ : Pc), some ⟨pb, po, none⟩, cd, L, (-1), by have := HLF.out; omega, by have := HLF.out; omega, HNX.out, by go_num, rfl, rfl, rfl, run_no 2 m _ (Or.inr (by omega)), HPL.out, by rw [pgs_snoc, HXX.out, HYM.out]; exact HQ.out, HNEW2.out, by rw [pgs_snoc, HXX.out, HYM.out]; exact HYL2.out, by rw [show N - (k + m) = lf - m by have := HLF.out; omega]; exact HNEW.out⟩
                    case measure => simp [intOf]; have := HLF.out; omega
        · clear hkd hnx hra
          obtain ⟨mt, hmt⟩ : ∃ mt, toldN bs at_ = mt := ⟨_, rfl⟩
          have HTN : Hid (toldN bs at_ = mt) := hmt
          rw [hmt] at hc1 htk htl
          have e11 : ((1 : Int) == rv) = false := by rw [← HRV.out]; exact run_not1 a1 HOK.out.kind
          obtain ⟨r1, hr1'⟩ : ∃ r1, at_ + 1 = r1 := ⟨_, rfl⟩
          obtain ⟨r2, hr2'⟩ : ∃ r2, at_ + 2 = r2 := ⟨_, rfl⟩
          have hr1 : r1 < n := by have := HLEN.out; omega
          have hr2 : r2 < n := by have := HLEN.out; omega
          have wa1 : IntKind.i64.wrap ((at_ : Int) + 1) = (r1 : Int) := by rw [IntKind.wrap_i64]; omega
          have wa2 : IntKind.i64.wrap ((at_ : Int) + 2) = (r2 : Int) := by rw [IntKind.wrap_i64]; omega
          have d4 : (r1 : Int) < (n : Int) := by omega
          have d5 : (r2 : Int) < (n : Int) := by omega
          obtain ⟨z1, hz1⟩ : ∃ z1, bs.getD r1 0 = z1 := ⟨_, rfl⟩
          obtain ⟨z2, hz2⟩ : ∃ z2, bs.getD r2 0 = z2 := ⟨_, rfl⟩
          have HZ1 : Hid (bs.getD r1 0 = z1) := hz1
          have HZ2 : Hid (bs.getD r2 0 = z2) := hz2
          have b1 := byt_getD HBY.out r1
          have b2 := byt_getD HBY.out r2
          rw [hz1] at b1
          rw [hz2] at b2
          have hmz : z1 + 256 * z2 = (mt : Int) := by
            unfold toldN at hmt
            rw [hr1', hr2', hz1, hz2] at hmt
            omega
          have wz1 : IntKind.i64.wrap z1 = z1 := by rw [IntKind.wrap_i64]; omega
          have wz2 : IntKind.i64.wrap z2 = z2 := by rw [IntKind.wrap_i64]; omega
          have wz3 : IntKind.i64.wrap (256 * z2) = 256 * z2 := by rw [IntKind.wrap_i64]; omega
          have wm : IntKind.i64.wrap (z1 + 256 * z2) = (mt : Int) := by rw [IntKind.wrap_i64]; omega
          have hmt2 : mt ≤ 65535 := by omega
          rw [HL.out] at hpl
          have HPL : Hid (pg.length = L) := hpl
          clear hmt hr1' hr2' hz1 hz2 hmz hl3
          go_upto_region 14 with (first
            | (go_at_call 49; refine (rpiece_any (some ⟨bk, off, none⟩) n c bs at_ b p s lf _ (HR.out.below HP.out.bel) hn hat1 hs1 hs2 hlf2 C S HC.out HS.out).mono ?_; rintro e t1 ⟨res, bl⟩; rw [HRA.out] at res; obtain ⟨v1, rfl, own1⟩ := res
               have HP1 : Hid (PsAt w t1 #[.int .i64 (b : Int), .int .i64 (p : Int), .int .i64 (s : Int)] u10 X ad a1.g) := HP.out.below bl
               have k0 : t1.cell? ⟨bk, off + at_, none⟩ = some (.int .u8 1) := by have h9 := (HR.out.below HP1.out.bel).at at_ hd2; rw [HKD.out] at h9; exact h9
               rw [hpl] at own1
               obtain ⟨pb, cp, rfl, hcp1, hcp2, hpb1, hpb2⟩ := own_shape own1 hL0
               have HRP : Hid (Reads t1 (some ⟨pb, 0, none⟩) L pg) := by
                 have h9 := Own.reads (w := t1) (g := pb) (n := L) (cap := cp) (xs := pg) own1 hpb L (Nat.le_refl _)
                 rw [List.take_of_length_le (by omega)] at h9
                 exact h9
               have HPT : Hid (PsAt w t1 #[.int .i64 (b : Int), .int .i64 (p : Int), .int .i64 (s : Int)] u10 X (some ⟨pb, 0, none⟩) pg) := HP.out.last bl (by rw [hpl]; exact HRP.out) hpb1 hpb2
               have k1 : t1.cell? ⟨bk, off + r1, none⟩ = some (.int .u8 z1) := by have h9 := (HR.out.below HP1.out.bel).at r1 hr1; rw [HZ1.out] at h9; exact h9
               have k2 : t1.cell? ⟨bk, off + r2, none⟩ = some (.int .u8 z2) := by have h9 := (HR.out.below HP1.out.bel).at r2 hr2; rw [HZ2.out] at h9; exact h9
               clear hcp1 hcp2 hpb1 hpb2
               clear own1 bl x0 x1 x2
               obtain ⟨x0, x1, x2, x3, x4, x5⟩ := blk3_cells HP1.out.box
               clear x3 x4 x5))
          refine wp_region_held_drew (S := (fun y : World => y.cell? ⟨bk, off + r1, none⟩ = some (.int .u8 z1) ∧ y.cell? ⟨bk, off + r2, none⟩ = some (.int .u8 z2))) (by kernel_rfl) (And.intro k1 k2) (fun hHeld => ?_)
          refine wpAnyH_take (i := 0) (oi := { dst := some 53, op := Op.move (Operand.tmp 0), type := 22, pos := "ref.go:253", after := #[], guard := none }) (v := ?v0t) rfl (by kernel_rfl) (by kernel_rfl) (by kernel_rfl) (fun _ _ _ h => h) (Or.inl ⟨by rfl, ?y0t⟩) (by assumption) ?r0t
          case y0t => (intro x hx; (try dsimp only at hx); go_simp; try with_reducible rfl)
          try simp only [Act.put, List.setIfInBounds_toArray, List.set_cons_zero, List.set_cons_succ]
          refine wpAnyH_take (i := 1) (oi := { dst := some 54, op := Op.move (Operand.tmp 1), type := 3, pos := "ref.go:253", after := #[], guard := none }) (v := ?v1t) rfl (by kernel_rfl) (by kernel_rfl) (by kernel_rfl) (fun _ _ _ h => h) (Or.inl ⟨by rfl, ?y1t⟩) (by assumption) ?r1t
          case y1t => (intro x hx; (try dsimp only at hx); go_simp; try with_reducible rfl)
          try simp only [Act.put, List.setIfInBounds_toArray, List.set_cons_zero, List.set_cons_succ]
          refine wpAnyH_take (i := 2) (oi := { dst := some 55, op := Op.binOp BinOp.add 3 (Operand.tmp 54) (Operand.const (Value.int IntKind.i64 1)) 3, type := 3, pos := "ref.go:253", after := #[{ on := 1, ground := Ground.data }], guard := none }) (v := ?v2t) rfl (by kernel_rfl) (by kernel_rfl) (by kernel_rfl) (fun _ _ _ h => h) (Or.inl ⟨by rfl, ?y2t⟩) (by assumption) ?r2t
          case y2t => (intro x hx; (try dsimp only at hx); go_simp; try with_reducible rfl)
          try simp only [Act.put, List.setIfInBounds_toArray, List.set_cons_zero, List.set_cons_succ]
          refine wpAnyH_take (i := 3) (oi := { dst := some 56, op := Op.indexAddr 22 (Operand.tmp 53) (Operand.tmp 55), type := 0, pos := "ref.go:253", after := #[{ on := 0, ground := Ground.data }, { on := 2, ground := Ground.data }], guard := none }) (v := ?v3t) rfl (by kernel_rfl) (by kernel_rfl) (by kernel_rfl) (fun _ _ _ h => h) (Or.inl ⟨by rfl, ?y3t⟩) (by assumption) ?r3t
          case y3t => (intro x hx; (try dsimp only at hx); go_simp; try with_reducible rfl)
          try simp only [Act.put, List.setIfInBounds_toArray, List.set_cons_zero, List.set_cons_succ]
          refine wpAnyH_take (i := 4) (oi := { dst := some 57, op := Op.load 5 (Operand.tmp 56), type := 5, pos := "ref.go:253", after := #[{ on := 3, ground := Ground.data }], guard := none }) (v := ?v4t) rfl (by kernel_rfl) (by kernel_rfl) (by kernel_rfl) (fun _ _ _ h => h) (Or.inl ⟨by rfl, ?y4t⟩) (by assumption) ?r4t
          case y4t => (intro x hx; (try dsimp only at hx); go_simp; try with_reducible rfl)
          try simp only [Act.put, List.setIfInBounds_toArray, List.set_cons_zero, List.set_cons_succ]
          refine wpAnyH_take (i := 5) (oi := { dst := some 58, op := Op.convert 5 3 (Operand.tmp 57), type := 3, pos := "ref.go:253", after := #[{ on := 4, ground := Ground.data }], guard := none }) (v := ?v5t) rfl (by kernel_rfl) (by kernel_rfl) (by kernel_rfl) (fun _ _ _ h => h) (Or.inl ⟨by rfl, ?y5t⟩) (by assumption) ?r5t
          case y5t => (intro x hx; (try dsimp only at hx); go_simp; try with_reducible rfl)
          try simp only [Act.put, List.setIfInBounds_toArray, List.set_cons_zero, List.set_cons_succ]
          refine wpAnyH_take (i := 6) (oi := { dst := some 59, op := Op.move (Operand.tmp 0), type := 22, pos := "ref.go:253", after := #[], guard := none }) (v := ?v6t) rfl (by kernel_rfl) (by kernel_rfl) (by kernel_rfl) (fun _ _ _ h => h) (Or.inl ⟨by rfl, ?y6t⟩) (by assumption) ?r6t
          case y6t => (intro x hx; (try dsimp only at hx); go_simp; try with_reducible rfl)
          try simp only [Act.put, List.setIfInBounds_toArray, List.set_cons_zero, List.set_cons_succ]
          refine wpAnyH_take (i := 7) (oi := { dst := some 60, op := Op.move (Operand.tmp 1), type := 3, pos := "ref.go:253", after := #[], guard := none }) (v := ?v7t) rfl (by kernel_rfl) (by kernel_rfl) (by kernel_rfl) (fun _ _ _ h => h) (Or.inl ⟨by rfl, ?y7t⟩) (by assumption) ?r7t
          case y7t => (intro x hx; (try dsimp only at hx); go_simp; try with_reducible rfl)
          try simp only [Act.put, List.setIfInBounds_toArray, List.set_cons_zero, List.set_cons_succ]
          refine wpAnyH_take (i := 8) (oi := { dst := some 61, op := Op.binOp BinOp.add 3 (Operand.tmp 60) (Operand.const (Value.int IntKind.i64 2)) 3, type := 3, pos := "ref.go:253", after := #[{ on := 7, ground := Ground.data }], guard := none }) (v := ?v8t) rfl (by kernel_rfl) (by kernel_rfl) (by kernel_rfl) (fun _ _ _ h => h) (Or.inl ⟨by rfl, ?y8t⟩) (by assumption) ?r8t
          case y8t => (intro x hx; (try dsimp only at hx); go_simp; try with_reducible rfl)
          try simp only [Act.put, List.setIfInBounds_toArray, List.set_cons_zero, List.set_cons_succ]
          refine wpAnyH_take (i := 9) (oi := { dst := some 62, op := Op.indexAddr 22 (Operand.tmp 59) (Operand.tmp 61), type := 0, pos := "ref.go:253", after := #[{ on := 6, ground := Ground.data }, { on := 8, ground := Ground.data }], guard := none }) (v := ?v9t) rfl (by kernel_rfl) (by kernel_rfl) (by kernel_rfl) (fun _ _ _ h => h) (Or.inl ⟨by rfl, ?y9t⟩) (by assumption) ?r9t
          case y9t => (intro x hx; (try dsimp only at hx); go_simp; try with_reducible rfl)
          try simp only [Act.put, List.setIfInBounds_toArray, List.set_cons_zero, List.set_cons_succ]
          refine wpAnyH_take (i := 10) (oi := { dst := some 63, op := Op.load 5 (Operand.tmp 62), type := 5, pos := "ref.go:253", after := #[{ on := 9, ground := Ground.data }], guard := none }) (v := ?v10t) rfl (by kernel_rfl) (by kernel_rfl) (by kernel_rfl) (fun _ _ _ h => h) (Or.inl ⟨by rfl, ?y10t⟩) (by assumption) ?r10t
          case y10t => (intro x hx; (try dsimp only at hx); go_simp; try with_reducible rfl)
          try simp only [Act.put, List.setIfInBounds_toArray, List.set_cons_zero, List.set_cons_succ]
          refine wpAnyH_take (i := 11) (oi := { dst := some 64, op := Op.convert 5 3 (Operand.tmp 63), type := 3, pos := "ref.go:253", after := #[{ on := 10, ground := Ground.data }], guard := none }) (v := ?v11t) rfl (by kernel_rfl) (by kernel_rfl) (by kernel_rfl) (fun _ _ _ h => h) (Or.inl ⟨by rfl, ?y11t⟩) (by assumption) ?r11t
          case y11t => (intro x hx; (try dsimp only at hx); go_simp; try with_reducible rfl)
          try simp only [Act.put, List.setIfInBounds_toArray, List.set_cons_zero, List.set_cons_succ]
          refine wpAnyH_take (i := 12) (oi := { dst := some 65, op := Op.binOp BinOp.mul 3 (Operand.const (Value.int IntKind.i64 256)) (Operand.tmp 64) 3, type := 3, pos := "ref.go:253", after := #[{ on := 11, ground := Ground.data }], guard := none }) (v := ?v12t) rfl (by kernel_rfl) (by kernel_rfl) (by kernel_rfl) (fun _ _ _ h => h) (Or.inl ⟨by rfl, ?y12t⟩) (by assumption) ?r12t
          case y12t => (intro x hx; (try dsimp only at hx); go_simp; try with_reducible rfl)
          try simp only [Act.put, List.setIfInBounds_toArray, List.set_cons_zero, List.set_cons_succ]
          refine wpAnyH_take (i := 13) (oi := { dst := some 66, op := Op.binOp BinOp.add 3 (Operand.tmp 58) (Operand.tmp 65) 3, type := 3, pos := "ref.go:253", after := #[{ on := 5, ground := Ground.data }, { on := 12, ground := Ground.data }], guard := none }) (v := ?v13t) rfl (by kernel_rfl) (by kernel_rfl) (by kernel_rfl) (fun _ _ _ h => h) (Or.inl ⟨by rfl, ?y13t⟩) (by assumption) ?r13t
          case y13t => (intro x hx; (try dsimp only at hx); go_simp; try with_reducible rfl)
          try simp only [Act.put, List.setIfInBounds_toArray, List.set_cons_zero, List.set_cons_succ]
          refine wpAnyH_take (i := 14) (oi := { dst := some 19, op := Op.assign (Operand.tmp 66), type := 3, pos := "ref.go:253", after := #[{ on := 13, ground := Ground.data }, { on := 0, ground := Ground.phase }, { on := 1, ground := Ground.phase }, { on := 2, ground := Ground.phase }, { on := 3, ground := Ground.phase }, { on := 4, ground := Ground.phase }, { on := 5, ground := Ground.phase }, { on := 6, ground := Ground.phase }, { on := 7, ground := Ground.phase }, { on := 8, ground := Ground.phase }, { on := 9, ground := Ground.phase }, { on := 10, ground := Ground.phase }, { on := 11, ground := Ground.phase }, { on := 12, ground := Ground.phase }, { on := 13, ground := Ground.phase }], guard := none }) (v := ?v14t) rfl (by kernel_rfl) (by kernel_rfl) (by kernel_rfl) (fun _ _ _ h => h) (Or.inl ⟨by rfl, ?y14t⟩) (by assumption) ?r14t
          case y14t => (intro x hx; (try dsimp only at hx); go_simp; try with_reducible rfl)
          try simp only [Act.put, List.setIfInBounds_toArray, List.set_cons_zero, List.set_cons_succ]
          refine wpAnyH_done (by kernel_rfl) ?_ _
          clear hHeld k0 k1 k2 wa1 wa2 d4 d5 wz1 wz2 wz3 wm x0 x1 x2
          have HP2 : Hid (PsAt w t1.drew #[.int .i64 (b : Int), .int .i64 (p : Int), .int .i64 (s : Int)] u10 X ad a1.g) := HP1.out.below (below_drew _)
          have HPT2 : Hid (PsAt w t1.drew #[.int .i64 (b : Int), .int .i64 (p : Int), .int .i64 (s : Int)] u10 X (some ⟨pb, 0, none⟩) pg) := HPT.out.below (below_drew _)
          have HRP2 : Hid (Reads t1.drew (some ⟨pb, 0, none⟩) L pg) := HRP.out.below (below_drew _)
          have HGR : Hid (Reads t1.drew ad gl a1.g) := by have h9 := HP2.out.lst; rw [HGL.out] at h9; exact h9
          obtain ⟨t2, ht2⟩ : ∃ t2, t1.drew = t2 := ⟨_, rfl⟩
          rw [ht2] at HP2 HPT2 HRP2 HGR ⊢
          clear ht2 HP1 HPT HRP
          by_cases hm0 : mt = 0
          · have eg : ¬ (0 : Int) < (mt : Int) := by omega
            have HPC : Hid (rdPiece C S lf (bs.drop at_) = .ok (⟨1, 1, pg⟩, bs.drop nx)) := by unfold Hid; rw [HLK.out, HTN.out, if_neg (fun h => by have := h.2; omega)]
            cases hbl : blankB pg with
            | true =>
              have HBK : Hid (blankB pg = true) := hbl
              have HRR : Hid (R = .error 47) := by
                unfold Hid
                rw [← HE.out]
                exact ext_bad hl0 HPC.out (by rw [stands1, hbl]; exact decide_eq_false (fun h => by cases h.1))
              clear HE hbl
              go_wp2_with (first
                | (go_at_call 51; refine (rblank_any (some ⟨pb, 0, none⟩) L cp pg _ (by omega) HRP2.out).mono ?_; rintro e t5 ⟨rfl, ht5⟩; rw [ht5, HBK.out]; clear ht5))
              exact bodyPost_ret (v := .tuple #[.slice none 0 0, .int .i64 0, .int .i64 47]) (by simp [results, Tryd.results29, go_sem]) rfl ⟨by rw [HRR.out]; exact ⟨by decide, rfl⟩, HP2.out.bel⟩
            | false =>
              have HBK : Hid (blankB pg = false) := hbl
              by_cases hsm : pg = a1.g
              · have HSM : Hid (decide (pg = a1.g) = true) := decide_eq_true hsm
                have HRR : Hid (R = .error 47) := by
                  unfold Hid
                  rw [← HE.out]
                  exact ext_bad hl0 HPC.out (by rw [stands1]; exact decide_eq_false (fun h => h.2 hsm))
                clear HE hbl hsm
                go_wp2_with (first
                  | (go_at_call 51; refine (rblank_any (some ⟨pb, 0, none⟩) L cp pg _ (by omega) HRP2.out).mono ?_; rintro e t5 ⟨rfl, ht5⟩; rw [ht5, HBK.out]; clear ht5)
                  | (go_at_call 30; refine (rsame_gen (some ⟨pb, 0, none⟩) ad L gl cp cd pg a1.g _ (by omega) (by omega) HRP2.out HGR.out).mono ?_; rintro e t6 ⟨rfl, qq, ht6⟩; rw [ht6, HSM.out]; clear ht6))
                exact bodyPost_ret (v := .tuple #[.slice none 0 0, .int .i64 0, .int .i64 47]) (by simp [results, Tryd.results29, go_sem]) rfl ⟨by rw [HRR.out]; exact ⟨by decide, rfl⟩, (below_trans HP2.out.bel (drewN_below _ _))⟩
              · have HSM : Hid (decide (pg = a1.g) = false) := decide_eq_false hsm
                have HNEW : Hid (ext (ps ++ [(⟨1, 1, pg⟩ : Pc)]) (rdPs C S f' (lf - 1) ⟨1, 1, pg⟩ (bs.drop nx)) = R) := by
                  have h9 := ext_step (f := f') (ps := ps) (a := a1) hl0 HPC.out (by rw [stands1]; exact decide_eq_true ⟨hbl, hsm⟩)
                  rw [HE.out] at h9
                  exact h9.symm
                have HNEW2 : Hid (PcOk (⟨1, 1, pg⟩ : Pc) L) := ⟨by simp, by simp, HBK.out, Or.inr HPL.out, hpb⟩
                clear HE hbl hsm
                go_wp2_with (first
                  | (go_at_call 51; refine (rblank_any (some ⟨pb, 0, none⟩) L cp pg _ (by omega) HRP2.out).mono ?_; rintro e t5 ⟨rfl, ht5⟩; rw [ht5, HBK.out]; clear ht5)
                  | (go_at_call 30; refine (rsame_gen (some ⟨pb, 0, none⟩) ad L gl cp cd pg a1.g _ (by omega) (by omega) HRP2.out HGR.out).mono ?_; rintro e t6 ⟨rfl, qq, ht6⟩; rw [ht6, HSM.out]; clear ht6))
                have HPU : Hid (PsAt w (t2.drewN qq) #[.int .i64 (b : Int), .int .i64 (p : Int), .int .i64 (s : Int)] u10 X (some ⟨pb, 0, none⟩) pg) := HPT2.out.below (drewN_below _ _)
                go_loopw [10, 20] (fun s10 s20 wr => ∃ j : Nat, j ≤ 1 ∧ s20 = .int .i64 (j : Int) ∧ Hid (PsAt w wr #[.int .i64 (b : Int), .int .i64 (p : Int), .int .i64 (s : Int)] s10 (X ++ (List.replicate j (pg)).flatten) (some ⟨pb, 0, none⟩) (pg))) (fun _ i _ => 1 - (intOf i).toNat)
                case atStart => exact ⟨0, Nat.zero_le _, rfl, by rw [List.replicate_zero, List.flatten_nil, List.append_nil]; exact HPU.out⟩
                case round =>
                  obtain ⟨j, hj, rfl, HQ0⟩ := hrel
                  obtain ⟨Y, hY⟩ : ∃ Y, X ++ (List.replicate j (pg)).flatten = Y := ⟨_, rfl⟩
                  have HY : Hid (X ++ (List.replicate j (pg)).flatten = Y) := hY
                  have HQ : Hid (PsAt w wr #[.int .i64 (b : Int), .int .i64 (p : Int), .int .i64 (s : Int)] u10 Y (some ⟨pb, 0, none⟩) (pg)) := by unfold Hid; rw [← hY]; exact HQ0.out
                  have HYL : Hid (Y.length = (k + j) * L) := by unfold Hid; rw [← hY]; exact flatP_len X _ j k L HX.out HPL.out
                  clear HQ0 hY
                  by_cases hjm : j < 1
                  · have dj : (j : Int) < (1 : Int) := by omega
                    have hYb : Y.length ≤ 144179200 := by rw [HYL.out]; exact Nat.mul_le_mul (by have := HLF.out; omega : k + j ≤ 65536) hLb
                    have HLS : Hid (Reads wr (some ⟨pb, 0, none⟩) L (pg)) := by have h9 := HQ.out.lst; rw [HPL.out] at h9; exact h9
                    go_wp2_with (first
                      | (at_builtin; refine wpList_append_at rfl (.tmp 111) (.tmp 112) rfl (w.heap.size + 1) u10 Y.length Y rfl HQ.out.row ⟨pb, 0, none⟩ L cp (pg) rfl HLS.out (by omega) (lt_of_bk HQ.out.box) ?_; intro v8 w8 own8 grow8 at8
                         have HQ8 : Hid (PsAt w w8 #[.int .i64 (b : Int), .int .i64 (p : Int), .int .i64 (s : Int)] v8 (Y ++ (pg)) (some ⟨pb, 0, none⟩) (pg)) := HQ.out.app L HPL.out own8 grow8 at8
                         clear own8 grow8 at8))
                    go_roundw
                    case rel => exact ⟨j + 1, by omega, by go_num, by rw [← flat_snoc, HY.out]; exact HQ8.out⟩
                    case measure => simp [intOf]; omega
                  · have dj : ¬ (j : Int) < (1 : Int) := by omega
                    have HYM : Hid (X ++ (List.replicate 1 (pg)).flatten = Y) := by unfold Hid; rw [show 1 = j by omega]; exact HY.out
                    have HYL2 : Hid (Y.length = (k + 1) * L) := by unfold Hid; rw [show 1 = j by omega]; exact HYL.out
                    clear HY HYL hj
                    go_wp2_with fail
                    go_roundw
                    case rel => exact ⟨k + 1, f', nx, ps ++ [(⟨1, 1, pg⟩ : Pc)], (⟨1, 1, pg⟩ : Pc), some ⟨pb, 0, none⟩, cp, L, (-1), by have := HLF.out; omega, by have := HLF.out; omega, HNX.out, by go_num, rfl, rfl, rfl, run_no _ _ _ (Or.inl rfl), HPL.out, by rw [pgs_snoc, HXX.out, HYM.out]; exact HQ.out, HNEW2.out, by rw [pgs_snoc, HXX.out, HYM.out]; exact HYL2.out, by rw [show N - (k + 1) = lf - 1 by have := HLF.out; omega]; exact HNEW.out⟩
                    case measure => simp [intOf]; have := HLF.out; omega
          · have eg : (0 : Int) < (mt : Int) := by omega
            obtain ⟨jl, hjl⟩ : ∃ jl, mt - 1 = jl := ⟨_, rfl⟩
            have ej : (mt : Int) - 1 = (jl : Int) := by omega
            have hjL : jl < L := by have := HL.out; omega
            have dj : (jl : Int) < (L : Int) := by omega
            have kl : t2.cell? ⟨pb, jl, none⟩ = some (.int .u8 (pg.getD jl 0)) := by have h9 := HRP2.out.at jl hjL; rw [Nat.zero_add] at h9; exact h9
            have HLAST : Hid (wrN ((bs.drop (at_ + 3)).take mt) < mt ↔ pg.getD jl 0 = 255) := by
              have h9 := wr_last ((bs.drop (at_ + 3)).take mt)
              rw [htl] at h9
              unfold Hid
              rw [h9, ← htk, hjl]
              have e9 : (pg.take mt).getD jl 0 = pg.getD jl 0 := by rw [List.getD_eq_getElem?_getD, List.getElem?_take, if_pos (by omega), List.getD_eq_getElem?_getD]
              rw [e9]
              exact ⟨fun h => h.2, fun h => ⟨by omega, h⟩⟩
            clear hjl htk htl
            obtain ⟨zl, hzl⟩ : ∃ zl, pg.getD jl 0 = zl := ⟨_, rfl⟩
            rw [hzl] at kl HLAST
            clear hzl
            by_cases hz5 : zl = 255
            · have HRR : Hid (R = .error 47) := by
                unfold Hid
                rw [← HE.out]
                exact ext_err hl0 (by rw [HLK.out, HTN.out, if_pos ⟨trivial, HLAST.out.2 hz5⟩])
              subst hz5
              clear HE
              go_wp2_with fail
              exact bodyPost_ret (v := .tuple #[.slice none 0 0, .int .i64 0, .int .i64 47]) (by simp [results, Tryd.results29, go_sem]) rfl ⟨by rw [HRR.out]; exact ⟨by decide, rfl⟩, HP2.out.bel⟩
            · have e14 : (zl == 255) = false := by rw [beq_eq_false_iff_ne]; exact hz5
              have HPC : Hid (rdPiece C S lf (bs.drop at_) = .ok (⟨1, 1, pg⟩, bs.drop nx)) := by unfold Hid; rw [HLK.out, HTN.out, if_neg (fun h => hz5 (HLAST.out.1 h.2))]
              cases hbl : blankB pg with
              | true =>
                have HBK : Hid (blankB pg = true) := hbl
                have HRR : Hid (R = .error 47) := by
                  unfold Hid
                  rw [← HE.out]
                  exact ext_bad hl0 HPC.out (by rw [stands1, hbl]; exact decide_eq_false (fun h => by cases h.1))
                clear HE hbl
                go_wp2_with (first
                  | (go_at_call 51; refine (rblank_any (some ⟨pb, 0, none⟩) L cp pg _ (by omega) HRP2.out).mono ?_; rintro e t5 ⟨rfl, ht5⟩; rw [ht5, HBK.out]; clear ht5))
                exact bodyPost_ret (v := .tuple #[.slice none 0 0, .int .i64 0, .int .i64 47]) (by simp [results, Tryd.results29, go_sem]) rfl ⟨by rw [HRR.out]; exact ⟨by decide, rfl⟩, HP2.out.bel⟩
              | false =>
                have HBK : Hid (blankB pg = false) := hbl
                by_cases hsm : pg = a1.g
                · have HSM : Hid (decide (pg = a1.g) = true) := decide_eq_true hsm
                  have HRR : Hid (R = .error 47) := by
                    unfold Hid
                    rw [← HE.out]
                    exact ext_bad hl0 HPC.out (by rw [stands1]; exact decide_eq_false (fun h => h.2 hsm))
                  clear HE hbl hsm
                  go_wp2_with (first
                    | (go_at_call 51; refine (rblank_any (some ⟨pb, 0, none⟩) L cp pg _ (by omega) HRP2.out).mono ?_; rintro e t5 ⟨rfl, ht5⟩; rw [ht5, HBK.out]; clear ht5)
                    | (go_at_call 30; refine (rsame_gen (some ⟨pb, 0, none⟩) ad L gl cp cd pg a1.g _ (by omega) (by omega) HRP2.out HGR.out).mono ?_; rintro e t6 ⟨rfl, qq, ht6⟩; rw [ht6, HSM.out]; clear ht6))
                  exact bodyPost_ret (v := .tuple #[.slice none 0 0, .int .i64 0, .int .i64 47]) (by simp [results, Tryd.results29, go_sem]) rfl ⟨by rw [HRR.out]; exact ⟨by decide, rfl⟩, (below_trans HP2.out.bel (drewN_below _ _))⟩
                · have HSM : Hid (decide (pg = a1.g) = false) := decide_eq_false hsm
                  have HNEW : Hid (ext (ps ++ [(⟨1, 1, pg⟩ : Pc)]) (rdPs C S f' (lf - 1) ⟨1, 1, pg⟩ (bs.drop nx)) = R) := by
                    have h9 := ext_step (f := f') (ps := ps) (a := a1) hl0 HPC.out (by rw [stands1]; exact decide_eq_true ⟨hbl, hsm⟩)
                    rw [HE.out] at h9
                    exact h9.symm
                  have HNEW2 : Hid (PcOk (⟨1, 1, pg⟩ : Pc) L) := ⟨by simp, by simp, HBK.out, Or.inr HPL.out, hpb⟩
                  clear HE hbl hsm
                  go_wp2_with (first
                    | (go_at_call 51; refine (rblank_any (some ⟨pb, 0, none⟩) L cp pg _ (by omega) HRP2.out).mono ?_; rintro e t5 ⟨rfl, ht5⟩; rw [ht5, HBK.out]; clear ht5)
                    | (go_at_call 30; refine (rsame_gen (some ⟨pb, 0, none⟩) ad L gl cp cd pg a1.g _ (by omega) (by omega) HRP2.out HGR.out).mono ?_; rintro e t6 ⟨rfl, qq, ht6⟩; rw [ht6, HSM.out]; clear ht6))
                  have HPU : Hid (PsAt w (t2.drewN qq) #[.int .i64 (b : Int), .int .i64 (p : Int), .int .i64 (s : Int)] u10 X (some ⟨pb, 0, none⟩) pg) := HPT2.out.below (drewN_below _ _)
                  go_loopw [10, 20] (fun s10 s20 wr => ∃ j : Nat, j ≤ 1 ∧ s20 = .int .i64 (j : Int) ∧ Hid (PsAt w wr #[.int .i64 (b : Int), .int .i64 (p : Int), .int .i64 (s : Int)] s10 (X ++ (List.replicate j (pg)).flatten) (some ⟨pb, 0, none⟩) (pg))) (fun _ i _ => 1 - (intOf i).toNat)
                  case atStart => exact ⟨0, Nat.zero_le _, rfl, by rw [List.replicate_zero, List.flatten_nil, List.append_nil]; exact HPU.out⟩
                  case round =>
                    obtain ⟨j, hj, rfl, HQ0⟩ := hrel
                    obtain ⟨Y, hY⟩ : ∃ Y, X ++ (List.replicate j (pg)).flatten = Y := ⟨_, rfl⟩
                    have HY : Hid (X ++ (List.replicate j (pg)).flatten = Y) := hY
                    have HQ : Hid (PsAt w wr #[.int .i64 (b : Int), .int .i64 (p : Int), .int .i64 (s : Int)] u10 Y (some ⟨pb, 0, none⟩) (pg)) := by unfold Hid; rw [← hY]; exact HQ0.out
                    have HYL : Hid (Y.length = (k + j) * L) := by unfold Hid; rw [← hY]; exact flatP_len X _ j k L HX.out HPL.out
                    clear HQ0 hY
                    by_cases hjm : j < 1
                    · have dj : (j : Int) < (1 : Int) := by omega
                      have hYb : Y.length ≤ 144179200 := by rw [HYL.out]; exact Nat.mul_le_mul (by have := HLF.out; omega : k + j ≤ 65536) hLb
                      have HLS : Hid (Reads wr (some ⟨pb, 0, none⟩) L (pg)) := by have h9 := HQ.out.lst; rw [HPL.out] at h9; exact h9
                      go_wp2_with (first
                        | (at_builtin; refine wpList_append_at rfl (.tmp 111) (.tmp 112) rfl (w.heap.size + 1) u10 Y.length Y rfl HQ.out.row ⟨pb, 0, none⟩ L cp (pg) rfl HLS.out (by omega) (lt_of_bk HQ.out.box) ?_; intro v8 w8 own8 grow8 at8
                           have HQ8 : Hid (PsAt w w8 #[.int .i64 (b : Int), .int .i64 (p : Int), .int .i64 (s : Int)] v8 (Y ++ (pg)) (some ⟨pb, 0, none⟩) (pg)) := HQ.out.app L HPL.out own8 grow8 at8
                           clear own8 grow8 at8))
                      go_roundw
                      case rel => exact ⟨j + 1, by omega, by go_num, by rw [← flat_snoc, HY.out]; exact HQ8.out⟩
                      case measure => simp [intOf]; omega
                    · have dj : ¬ (j : Int) < (1 : Int) := by omega
                      have HYM : Hid (X ++ (List.replicate 1 (pg)).flatten = Y) := by unfold Hid; rw [show 1 = j by omega]; exact HY.out
                      have HYL2 : Hid (Y.length = (k + 1) * L) := by unfold Hid; rw [show 1 = j by omega]; exact HYL.out
                      clear HY HYL hj
                      go_wp2_with fail
                      go_roundw
                      case rel => exact ⟨k + 1, f', nx, ps ++ [(⟨1, 1, pg⟩ : Pc)], (⟨1, 1, pg⟩ : Pc), some ⟨pb, 0, none⟩, cp, L, (-1), by have := HLF.out; omega, by have := HLF.out; omega, HNX.out, by go_num, rfl, rfl, rfl, run_no _ _ _ (Or.inl rfl), HPL.out, by rw [pgs_snoc, HXX.out, HYM.out]; exact HQ.out, HNEW2.out, by rw [pgs_snoc, HXX.out, HYM.out]; exact HYL2.out, by rw [show N - (k + 1) = lf - 1 by have := HLF.out; omega]; exact HNEW.out⟩
                      case measure => simp [intOf]; have := HLF.out; omega
    · have dk : ¬ (k : Int) < (N : Int) := by omega
      obtain rfl : k = N := by omega
      have HRR : Hid (R = .ok (ps, bs.drop at_)) := by
        unfold Hid
        rw [← HE.out, Nat.sub_self]
        exact ext_zero
      clear HE
      go_wp2_with fail
      refine bodyPost_ret (v := .tuple #[u10, .int .i64 (at_ : Int), .int .i64 0]) (by simp [results, Tryd.results29, go_sem]) rfl ⟨?_, HP.out.bel⟩
      rw [HRR.out]
      have hld : (bs.drop at_).length = n - at_ := by rw [List.length_drop, HLEN.out]
      refine ⟨u10, ?_, by omega, ?_⟩
      · rw [hld, show n - (n - at_) = at_ by omega]
      · rw [HXX.out]; exact ownsRow_base HP.out.row (by omega)

end Go.Proofs.YteefekhlbillfaaDoor
