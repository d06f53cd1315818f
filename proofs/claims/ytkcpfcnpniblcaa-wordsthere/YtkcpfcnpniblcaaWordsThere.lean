/-
  SEAT Ytkcpfcnpniblcaa: WordsThere.
-/
import Derived.Test.YtkcpfcnpniblcaaKitG
import Derived.Test.YtkcpfcnpniblcaaApp
import Derived.WalkKit
import Derived.ProofKit
import Derived.OpenShut
import Derived.ShutString
import Derived.ChangeOld
import Derived.Below
import Derived.SizedLaws
namespace Go.Proofs.Ytkcpfcnpniblcaa.wordsThere
open Go.ChangeShapes Go.WideShapes Go.ChangeAt Go.RowKit
open Go.ChangeMaps (open_string shut_string)
set_option linter.unusedVariables false

theorem own : ownKnob Try.prog.godebug = none := by kernel_rfl
theorem bytes5 : Try.prog.bytesOf 5 = 1 := by kernel_rfl
theorem laidOut : laidOutB Try.prog = true := by kernel_rfl

theorem zeros_reads (w : World) : Reads (w.alloc (.cells #[.int .u8 0, .int .u8 0, .int .u8 0, .int .u8 0, .int .u8 0, .int .u8 0, .int .u8 0, .int .u8 0] 5)) (some ⟨w.heap.size, 0, none⟩) 8 [0, 0, 0, 0, 0, 0, 0, 0] := by
  refine ⟨rfl, by simp, (fun h => by cases h), fun x hx i hi => ?_⟩
  cases hx
  match i, hi with
  | 0, _ => simp [Addr.add]
  | 1, _ => simp [Addr.add]
  | 2, _ => simp [Addr.add]
  | 3, _ => simp [Addr.add]
  | 4, _ => simp [Addr.add]
  | 5, _ => simp [Addr.add]
  | 6, _ => simp [Addr.add]
  | 7, _ => simp [Addr.add]

set_option maxHeartbeats 1000000 in
theorem walk (a0 : Option Addr) (len0 cap0 : Nat) (z0 : List Int) (a1 : Int) (a2 : Int) (a3 : Int) (w : World) (w0 : Reads w a0 len0 z0) (s0 : len0 ≤ 140737488351232) (w1 : (Lit.int .i64 a1).wf = true) (w2 : (Lit.int .i64 a2).wf = true) (w3 : (Lit.int .u64 a3).wf = true) :
    Calls Try.prog 5 #[.slice a0 len0 cap0, .int .i64 a1, .int .i64 a2, .int .u64 a3] w fun e w' => e = .returned (.bool true) ∧ Below w.heap.size w w' := by
  obtain ⟨i0, hi, hz0, hz1, hz2⟩ := info_parts info5
  have b1 := bounds_i64 w1
  have b2 := bounds_i64 w2
  have b3 := bounds_u64 w3
  obtain ⟨t, ht⟩ := Int.eq_ofNat_of_zero_le (Int.emod_nonneg a1 (show (len0 : Int) + 1 ≠ 0 by omega))
  obtain ⟨m, hm⟩ := Int.eq_ofNat_of_zero_le (Int.emod_nonneg a2 (show (8 : Int) ≠ 0 by omega))
  have ht2 : t ≤ len0 := by have := Int.emod_lt_of_pos a1 (show (0 : Int) < (len0 : Int) + 1 by omega); omega
  have hm2 : m < 8 := by omega
  obtain ⟨b10, b11⟩ := b1
  obtain ⟨b20, b21⟩ := b2
  clear w1 w2 w3
  obtain ⟨n, hn⟩ : ∃ n : Nat, 1 + (m : Int) = n := ⟨m + 1, by omega⟩
  have hn1 : 1 ≤ n := by omega
  have hn2 : n ≤ 8 := by omega
  obtain ⟨b30, b31⟩ := b3
  have rA := w0.below ((Below.refl w.heap.size w).alloc (Nat.le_refl _) (.cells #[] 5))
  obtain ⟨y0, hy0⟩ : ∃ y0, y0 = z0 ++ [0, 0, 0, 0, 0, 0, 0, 0] := ⟨_, rfl⟩
  have hyl : y0.length = len0 + 8 := by rw [hy0]; simp [w0.1]
  have hyr : ∀ x ∈ y0, 0 ≤ x ∧ x ≤ 255 := by
    intro x hx
    rw [hy0] at hx
    rcases List.mem_append.1 hx with h1 | h1
    · exact w0.2.1 x h1
    · simp at h1; omega
  have HY : Hid (y0 = z0 ++ [0, 0, 0, 0, 0, 0, 0, 0]) := hy0
  clear hy0
  obtain ⟨v, hvd⟩ : ∃ v, v = if n < 8 then a3 % IntKind.u64.wrap (2 ^ (8 * n)) else a3 := ⟨_, rfl⟩
  have hv : 0 ≤ v ∧ v < 256 ^ n := by
    have hp := pow256_pos n
    rw [hvd, p256] at *
    split
    · have e : IntKind.u64.wrap (2 ^ (8 * n)) = 2 ^ (8 * n) := by
        have h1 : (256 : Int) ^ n ≤ 256 ^ 7 := pow256_le (by omega)
        have h2 : (256 : Int) ^ 7 = 72057594037927936 := by decide
        rw [p256] at h1
        rw [IntKind.wrap_u64]
        omega
      rw [e]
      exact ⟨Int.emod_nonneg _ (by omega), Int.emod_lt_of_pos _ hp⟩
    · have hn : n = 8 := by omega
      subst hn
      have h2 : (2 : Int) ^ (8 * 8) = 18446744073709551616 := by decide
      omega
  obtain ⟨hv0, hv1⟩ := hv
  have hf : (v / 2 ^ (8 * (n : Int)).toNat == 0) = true := by
    have e : (8 * (n : Int)).toNat = 8 * n := by omega
    rw [e, ← p256, Int.ediv_eq_zero_of_lt hv0 hv1]
    rfl
  have HV : Hid (v < 256 ^ n) := hv1
  clear hv1
  have hpa := putL_append y0 [161, 178, 195] t n v n (Nat.le_refl _) (by omega)
  obtain ⟨yv, hyv⟩ : ∃ yv, putL y0 t v n = yv := ⟨_, rfl⟩
  have hyvl : yv.length = len0 + 8 := by rw [← hyv, putL_length, hyl]
  have hyvr : ∀ x ∈ yv, 0 ≤ x ∧ x ≤ 255 := by rw [← hyv]; exact putL_range _ _ _ _ hyr
  have hgv : getL yv t n = v := by
    rw [← hyv, get_put y0 t v n (by omega) hv0 n (Nat.le_refl _)]
    exact Int.emod_eq_of_lt hv0 HV.out
  have htk : yv.take t = y0.take t := by
    refine List.ext_getElem (by simp; omega) fun i h1 h2 => ?_
    have := putL_getD y0 t v n (by omega) i
    simp at h1 h2
    rw [hyv, if_neg (by omega)] at this
    simp [List.getD_eq_getElem?_getD, List.getElem?_eq_getElem (show i < yv.length by omega), List.getElem?_eq_getElem (show i < y0.length by omega)] at this
    simpa using this
  have hdr : yv.drop (t + n) = y0.drop (t + n) := by
    refine List.ext_getElem (by simp; omega) fun i h1 h2 => ?_
    have := putL_getD y0 t v n (by omega) (t + n + i)
    simp at h1 h2
    rw [hyv, if_neg (by omega)] at this
    simp [List.getD_eq_getElem?_getD, List.getElem?_eq_getElem (show t + n + i < yv.length by omega), List.getElem?_eq_getElem (show t + n + i < y0.length by omega)] at this
    simpa using this
  rw [hyv] at hpa
  by_cases hn8 : n < 8
  · rw [if_pos hn8] at hvd
    obtain ⟨P, hP⟩ : ∃ P, IntKind.u64.wrap (2 ^ (8 * n)) = P := ⟨_, rfl⟩
    have hP0 : 0 < P := by
      have h1 : (256 : Int) ^ n ≤ 256 ^ 7 := pow256_le (by omega)
      have h2 : (256 : Int) ^ 7 = 72057594037927936 := by decide
      have h3 := pow256_pos n
      rw [p256] at h1 h3
      rw [← hP, IntKind.wrap_u64]
      omega
    have hP1 : (P == 0) = false := by simp; omega
    rw [hP] at hvd
    have hvv := hvd.symm
    have HPA : Hid (putL (y0 ++ [161, 178, 195]) t v n = yv ++ [161, 178, 195]) := hpa
    have HTK : Hid (yv.take t = y0.take t) := htk
    have HDR : Hid (yv.drop (t + n) = y0.drop (t + n)) := hdr
    clear hvd hyv hpa htk hdr
    go_enter Try.func5, Try.ntmps5
    go_wp2_with (first
      | (go_at_call 15; refine (mod_any _ _ _ ?_ ?_ ?_ ?_).mono ?_; omega; omega; omega; omega; rintro e u1 ⟨rfl, rfl⟩)
      | (at_builtin; refine wpList_append_reads rfl (.tmp 22) (.tmp 23) rfl w.heap.size _ _ [] rfl (made0 w) _ _ _ z0 rfl rA (by omega) (by simp) ?_; intro v1 w1 hown1 hgrow1; simp only [Nat.zero_add, List.nil_append] at hown1)
      | (at_builtin; refine wpList_append_reads rfl (.tmp 24) (.tmp 25) rfl w.heap.size _ _ z0 rfl (hown1.alloc _) _ _ _ [0, 0, 0, 0, 0, 0, 0, 0] rfl (zeros_reads w1) (by omega) (by have := hgrow1.size; simp at this ⊢; omega) ?_; intro v2 w2 hown2 hgrow2; rw [← HY.out] at hown2; obtain ⟨g2, c2, rfl, hc2, hm2, hbg2, hgl2⟩ := own_shape hown2 (by omega); have rd2 := Own.reads hown2 hyr (len0 + 8) (Nat.le_refl _); rw [List.take_of_length_le (by omega)] at rd2)
      | (go_at_call 7; refine (marked_any _ _ _ y0 _ ?_ ?_).mono ?_; assumption; omega; rintro e u3 ⟨g3, c3, rfl, own3, bel3⟩; have rd3 := own3.reads (marks_range _ hyr) (len0 + 8) (by omega); rw [List.take_left' hyl] at rd3; have cv3 := conv _ _ c3 _ _ rd3)
      | (go_at_call 16; refine (put_ok _ _ (len0 + 8 + 3) _ _ t n _ (y0 ++ [161, 178, 195]) _ ?_ hn1 hn2 hf ?_ ?_ hv0 own3).mono ?_; omega; omega; omega; rintro e u4 ⟨rfl, own4, gr4⟩; rw [HPA.out] at own4; have rd4 := own4.reads (marks_range _ hyvr) (len0 + 8) (by omega); rw [List.take_left' hyvl] at rd4)
      | (go_at_call 12; refine (get_ok _ _ _ t n yv _ ?_ hn1 hn2 ?_ ?_).mono ?_; omega; omega; assumption; rintro e u5 ⟨rfl, rfl⟩))
    have rd5 := rd4.cut (t + n) c3 (by omega)
    have c1 : ∀ k, (convert 22 9 (.slice (some ⟨g3, 0, none⟩) t c3)).run Try.prog (u4.drewN k) = .ok (.string ((strOfNums y0).extract 0 t)) (u4.drewN k) := by
      intro k
      have r := own4.reads (marks_range _ hyvr) t (by omega)
      rw [List.take_append_of_le_length (by omega), HTK.out] at r
      rw [str_take]
      exact conv _ _ _ _ _ (r.drewN k)
    have c2 : ∀ k, (convert 22 9 (.slice (some ⟨g3, t + n, none⟩) (len0 + 8 - (t + n)) (c3 - (t + n)))).run Try.prog (u4.drewN k) = .ok (.string ((strOfNums y0).extract (t + n) (strOfNums y0).size)) (u4.drewN k) := by
      intro k
      rw [str_drop, ← HDR.out]
      exact conv _ _ _ _ _ (rd5.drewN k)
    have hss : (strOfNums y0).size = len0 + 8 := by rw [strOfNums_size, hyl]
    have hc3 : len0 + 8 + 3 ≤ c3 := by obtain ⟨_, _, e, h3, _⟩ := own_shape own4 (by omega); simp at e; omega
    have hcm : c3 ≤ 9223372036854775807 := by obtain ⟨_, _, e, _, h3, _⟩ := own_shape own4 (by omega); simp [maxLen] at e h3; omega
    have k1 : (t : Int) ≤ (c3 : Int) := by omega
    have k2 : (t : Int) + (n : Int) ≤ (len0 : Int) + 8 := by omega
    have k3 : (t : Int) ≤ (len0 : Int) + 8 := by omega
    have k4 : t ≤ len0 + 8 := by omega
    have k5 : t + n ≤ len0 + 8 := by omega
    have k6 : t ≤ c3 := by omega
    have k7 : t + n < c3 := by omega
    have B1 : Below w.heap.size w w1 := ((Below.refl w.heap.size w).alloc (Nat.le_refl _) _).grown hgrow1 (by simp) (fun k hk => ((made0 w).lt k hk).1)
    have B2 : Below w.heap.size w w2 := (B1.alloc B1.size _).grown hgrow2 (by have := B1.size; simp; omega) (fun k hk => (hown1.lt k hk).1)
    have B3 : Below w.heap.size w u3 := B2.trans (bel3.mono B2.size)
    have B4 : Below w.heap.size w u4 := B3.grown gr4 B3.size (fun k hk => by cases hk; have := own3.lt.1; have := B2.size; omega)
    clear hown1 hgrow1 hown2 hgrow2 rd2 rd3 rd4 rd5 own3 own4 bel3 gr4 cv3 B1 B2 B3
    go_quiet ((go_at_call 14; exact Calls.quiet_of_same (no_quiet _ _)))
    go_wp2
    go_ret
    exact ⟨rfl, below_drewN B4 _⟩
  · rw [if_neg hn8] at hvd
    subst hvd
    have HPA : Hid (putL (y0 ++ [161, 178, 195]) t v n = yv ++ [161, 178, 195]) := hpa
    have HTK : Hid (yv.take t = y0.take t) := htk
    have HDR : Hid (yv.drop (t + n) = y0.drop (t + n)) := hdr
    clear hyv hpa htk hdr
    go_enter Try.func5, Try.ntmps5
    go_wp2_with (first
      | (go_at_call 15; refine (mod_any _ _ _ ?_ ?_ ?_ ?_).mono ?_; omega; omega; omega; omega; rintro e u1 ⟨rfl, rfl⟩)
      | (at_builtin; refine wpList_append_reads rfl (.tmp 22) (.tmp 23) rfl w.heap.size _ _ [] rfl (made0 w) _ _ _ z0 rfl rA (by omega) (by simp) ?_; intro v1 w1 hown1 hgrow1; simp only [Nat.zero_add, List.nil_append] at hown1)
      | (at_builtin; refine wpList_append_reads rfl (.tmp 24) (.tmp 25) rfl w.heap.size _ _ z0 rfl (hown1.alloc _) _ _ _ [0, 0, 0, 0, 0, 0, 0, 0] rfl (zeros_reads w1) (by omega) (by have := hgrow1.size; simp at this ⊢; omega) ?_; intro v2 w2 hown2 hgrow2; rw [← HY.out] at hown2; obtain ⟨g2, c2, rfl, hc2, hm2, hbg2, hgl2⟩ := own_shape hown2 (by omega); have rd2 := Own.reads hown2 hyr (len0 + 8) (Nat.le_refl _); rw [List.take_of_length_le (by omega)] at rd2)
      | (go_at_call 7; refine (marked_any _ _ _ y0 _ ?_ ?_).mono ?_; assumption; omega; rintro e u3 ⟨g3, c3, rfl, own3, bel3⟩; have rd3 := own3.reads (marks_range _ hyr) (len0 + 8) (by omega); rw [List.take_left' hyl] at rd3; have cv3 := conv _ _ c3 _ _ rd3)
      | (go_at_call 16; refine (put_ok _ _ (len0 + 8 + 3) _ _ t n _ (y0 ++ [161, 178, 195]) _ ?_ hn1 hn2 hf ?_ ?_ hv0 own3).mono ?_; omega; omega; omega; rintro e u4 ⟨rfl, own4, gr4⟩; rw [HPA.out] at own4; have rd4 := own4.reads (marks_range _ hyvr) (len0 + 8) (by omega); rw [List.take_left' hyvl] at rd4)
      | (go_at_call 12; refine (get_ok _ _ _ t n yv _ ?_ hn1 hn2 ?_ ?_).mono ?_; omega; omega; assumption; rintro e u5 ⟨rfl, rfl⟩))
    have rd5 := rd4.cut (t + n) c3 (by omega)
    have c1 : ∀ k, (convert 22 9 (.slice (some ⟨g3, 0, none⟩) t c3)).run Try.prog (u4.drewN k) = .ok (.string ((strOfNums y0).extract 0 t)) (u4.drewN k) := by
      intro k
      have r := own4.reads (marks_range _ hyvr) t (by omega)
      rw [List.take_append_of_le_length (by omega), HTK.out] at r
      rw [str_take]
      exact conv _ _ _ _ _ (r.drewN k)
    have c2 : ∀ k, (convert 22 9 (.slice (some ⟨g3, t + n, none⟩) (len0 + 8 - (t + n)) (c3 - (t + n)))).run Try.prog (u4.drewN k) = .ok (.string ((strOfNums y0).extract (t + n) (strOfNums y0).size)) (u4.drewN k) := by
      intro k
      rw [str_drop, ← HDR.out]
      exact conv _ _ _ _ _ (rd5.drewN k)
    have hss : (strOfNums y0).size = len0 + 8 := by rw [strOfNums_size, hyl]
    have hc3 : len0 + 8 + 3 ≤ c3 := by obtain ⟨_, _, e, h3, _⟩ := own_shape own4 (by omega); simp at e; omega
    have hcm : c3 ≤ 9223372036854775807 := by obtain ⟨_, _, e, _, h3, _⟩ := own_shape own4 (by omega); simp [maxLen] at e h3; omega
    have k1 : (t : Int) ≤ (c3 : Int) := by omega
    have k2 : (t : Int) + (n : Int) ≤ (len0 : Int) + 8 := by omega
    have k3 : (t : Int) ≤ (len0 : Int) + 8 := by omega
    have k4 : t ≤ len0 + 8 := by omega
    have k5 : t + n ≤ len0 + 8 := by omega
    have k6 : t ≤ c3 := by omega
    have k7 : t + n < c3 := by omega
    have B1 : Below w.heap.size w w1 := ((Below.refl w.heap.size w).alloc (Nat.le_refl _) _).grown hgrow1 (by simp) (fun k hk => ((made0 w).lt k hk).1)
    have B2 : Below w.heap.size w w2 := (B1.alloc B1.size _).grown hgrow2 (by have := B1.size; simp; omega) (fun k hk => (hown1.lt k hk).1)
    have B3 : Below w.heap.size w u3 := B2.trans (bel3.mono B2.size)
    have B4 : Below w.heap.size w u4 := B3.grown gr4 B3.size (fun k hk => by cases hk; have := own3.lt.1; have := B2.size; omega)
    clear hown1 hgrow1 hown2 hgrow2 rd2 rd3 rd4 rd5 own3 own4 bel3 gr4 cv3 B1 B2 B3
    go_quiet ((go_at_call 14; exact Calls.quiet_of_same (no_quiet _ _)))
    go_wp2
    go_ret
    exact ⟨rfl, below_drewN B4 _⟩

set_option maxRecDepth 100000 in
theorem lifted (os : Os) (started : os.Started) (H : Type) (enc : TypeId × Value → H) :
    ReturnsInHanded {} Try.checked os 5 .any (Rows.wordsThereSpec.pre6 enc Try.prog Try.f5 Rows.wordsThereRow.domain false) (Rows.wordsThereSpec.post enc Try.prog Try.f5 false true false false) := by
  refine returnsInHanded_of_change_sized (C := Try.checked) own started (by kernel_rfl) Try.func5
    (ChangeSpec.witness6 (enc := enc) (C := Try.checked) false ⟨#[], #[.slice none 0 0, .int .i64 0, .int .i64 0, .int .u64 0], []⟩ 8 (by kernel_rfl) (by kernel_rfl) (by kernel_rfl) (by kernel_rfl)) ?_
  intro W base args ds gs before hval0 hW hcnd hsz0 _
  have hval : ∀ (j : Nat) t v, Try.f5.params[j]? = some t → args[j]? = some v → Value.okWide Try.prog W .any base t v := hval0
  have hsz : (DataW.weightsEach Try.prog (Try.f5.params.toList ++ Rows.wordsThereSpec.plain.varTypes Try.prog) (ds ++ gs)).all (· ≤ reachBytes) = true := hsz0
  clear hsz0
  have hW' := hW
  obtain ⟨p, q, hA0, hV, rfl, hfz, hnd⟩ := hW
  have hA : DataW.TrodAll enc Try.prog W 0 (fun _ => true) true Try.f5.params.toList args.toList ds p := hA0
  rw [Try.params5] at hA hval hsz
  obtain ⟨v0, vs0, d0, ds0, p0, q0, hargs, rfl, rfl, h0, r0⟩ := trodAll_cons hA
  obtain ⟨v1, vs1, d1, ds1, p1, q1, rfl, rfl, rfl, h1, r1⟩ := trodAll_cons r0
  obtain ⟨v2, vs2, d2, ds2, p2, q2, rfl, rfl, rfl, h2, r2⟩ := trodAll_cons r1
  obtain ⟨v3, vs3, d3, ds3, p3, q3, rfl, rfl, rfl, h3, r3⟩ := trodAll_cons r2
  obtain ⟨rfl, rfl, rfl⟩ := trodAll_nil r3
  obtain rfl : args = #[v0, v1, v2, v3] := by cases args; simp_all
  obtain ⟨rfl, rfl⟩ := trodVars_none hV
  obtain ⟨a0, len0, cap0, rfl⟩ := okWide_slice Try.underlying22 (hval 0 22 v0 rfl rfl)
  have k0 := h0
  have lt0 : ∀ x ∈ p0, x.block < W.heap.size := by obtain ⟨m, hm⟩ := k0; exact DataW.trod_lt m _ _ _ hm
  obtain ⟨z0, w0, s0⟩ : ∃ zs, Reads W a0 len0 zs ∧ len0 ≤ 140737488351232 := by
    obtain ⟨fuel, hf⟩ := h0
    rcases open_ints Try.underlying22 Try.underlying5 (by kernel_rfl) hf with ⟨hcs, _⟩ | ⟨x, l, c, zs, hcs, _, hl, hm, hz, hx, hcell, hwz⟩
    · simp [Value.cells] at hcs
      obtain ⟨rfl, rfl, rfl⟩ := hcs
      exact ⟨[], ⟨rfl, by simp, fun _ => rfl, fun _ h => by cases h⟩, by omega⟩
    · simp [Value.cells] at hcs
      obtain ⟨rfl, rfl, rfl⟩ := hcs
      have hz' : zs.length = cap0 := by simpa using hz
      have hd := (Prod.mk.inj hx).1
      have hw := sized_slice hsz (j := 0) (t := 22) (e := 5) rfl (congrArg some hd) Try.underlying22
      rw [bytes5] at hw
      simp only [lits, List.length_map, List.length_take, List.length_drop, reachBytes] at hw
      refine ⟨zs.take len0, ⟨by simp; omega, fun n hn => bounds_u8 (hwz n (List.mem_of_mem_take hn)), (fun h => by cases h), fun y hy i hi => ?_⟩, by omega⟩
      cases hy
      rw [hcell i (by omega)]
      simp [List.getD, hi]
  obtain ⟨a1, rfl, rfl, rfl, w1⟩ := open_int Try.underlying3 (hval 1 3 v1 rfl rfl) h1
  obtain ⟨a2, rfl, rfl, rfl, w2⟩ := open_int Try.underlying3 (hval 2 3 v2 rfl rfl) h2
  obtain ⟨a3, rfl, rfl, rfl, w3⟩ := open_int Try.underlying30 (hval 3 30 v3 rfl rfl) h3
  clear hA0 hval0
  refine (walk a0 len0 cap0 z0 a1 a2 a3 W w0 s0 w1 w2 w3).mono fun e W' ⟨he, bel⟩ => ?_
  subst he
  exact ⟨_, rfl, _, _, _, [], _, [], hW', trodAll_mk1 (shut_bool Try.underlying4 _), (trodAll_cons_mk (Below.trod laidOut (by kernel_rfl) (of_decide_eq_true (by kernel_rfl)) k0 bel lt0) (trodAll_cons_mk (shut_int Try.underlying3 w1) (trodAll_cons_mk (shut_int Try.underlying3 w2) (trodAll_cons_mk (shut_int Try.underlying30 w3) trodAll_mk0)))), rfl, bel.frame _, fun h => by cases h⟩

theorem over : Rows.wordsThereRow.holds Try.pinned (OpenSpec.ofChange Rows.wordsThereSpec) :=
  OpenClaim.holds_of_wide 5 Try.f5 rfl rfl rfl rfl rfl rfl rfl ⟨rfl, rfl, rfl, rfl, rfl⟩ rfl rfl rfl rfl rfl (by kernel_rfl) Try.func5 (by kernel_rfl)
    (of_decide_eq_true (by kernel_rfl)) (by unfold Func.isWrapper; first | (rw [if_pos (by decide +kernel)]; kernel_rfl) | (rw [if_neg (by decide +kernel)]; exact ⟨rfl, rfl⟩))
    (fun os started H enc _ => lifted os started H enc)

end Go.Proofs.Ytkcpfcnpniblcaa.wordsThere
namespace Go.Proofs.Ytkcpfcnpniblcaa
theorem wordsThere_holds : Rows.WordsThereSaid := wordsThere.over
#print axioms wordsThere_holds
end Go.Proofs.Ytkcpfcnpniblcaa

