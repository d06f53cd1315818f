/-
  SEAT Ytgijbpkfheillaa: the reference's small calls.
-/
import Derived.Test.YtgijbpkfheillaaPlB
import Derived.Test.YtgijbpkfheillaaPlA
namespace Go.Proofs.Ytgijbpkfheillaa
open Go.RowKit
set_option linter.unusedVariables false

theorem rin_any (gr gl g c : Nat) (P : Int) (es : List Ent) (cur last vic i : Int) (w : World) (h : RefB w gr gl g c P es cur last vic) (hn : es.length ≤ 5000) : Calls Try.prog 64 #[.pointer (some ⟨gr, 0, none⟩), .int .i64 i] w fun e w' => e = .returned (.bool (hasOk es.length i)) ∧ w = w' := by
  obtain ⟨c0, c1, c2, c3, c4, c5⟩ := h.cells
  clear h
  by_cases h0 : 0 ≤ i
  · by_cases h1 : i < es.length
    · go_enter Try.func64, Try.ntmps64
      go_wp2
      go_ret
      exact ⟨ret_bool (by simp [hasOk]; omega), rfl⟩
    · go_enter Try.func64, Try.ntmps64
      go_wp2
      go_ret
      exact ⟨ret_bool (by simp [hasOk]; omega), rfl⟩
  · go_enter Try.func64, Try.ntmps64
    go_wp2
    go_ret
    exact ⟨ret_bool (by simp [hasOk]; omega), rfl⟩
set_option maxHeartbeats 1000000 in
theorem ropen_any (gr gl g c : Nat) (P : Int) (es : List Ent) (cur last vic : Int) (w : World) (h : RefB w gr gl g c P es cur last vic) (hn : es.length ≤ 5000) :
    Calls Try.prog 51 #[.pointer (some ⟨gr, 0, none⟩)] w fun e w' => e = .returned (openV es) ∧ w = w' := by
  obtain ⟨c0, c1, c2, c3, c4, c5⟩ := h.cells
  have HB : Hid (RefB w gr gl g c P es cur last vic) := h
  clear h
  go_enter Try.func51, Try.ntmps51
  go_wp2
  go_loopw [4] (fun s4 wr => ∃ k : Nat, k ≤ es.length ∧ s4 = .int .i64 k ∧ Hid (openF es k = none) ∧ w = wr)
    (fun i _ => es.length - (intOf i).toNat)
  case atStart => exact ⟨0, Nat.zero_le _, rfl, rfl, rfl⟩
  case round =>
    obtain ⟨k, hk, rfl, HO, rfl⟩ := hrel
    by_cases hlt : k < es.length
    · obtain ⟨e0, e1, e2, e3⟩ := HB.out.entry k hlt
      obtain ⟨s, hs⟩ : ∃ s, (es.getD k Ent.zero).s = s := ⟨_, rfl⟩
      have HS : Hid _ := hs
      rw [hs] at e0
      have d1 : (k : Int) < es.length := by omega
      clear hs e1 e2 e3
      by_cases s0 : s = 2
      · subst s0
        have HF : Hid (openF es es.length = some k) := by
          refine openF_mono (k := k + 1) ?_ _ (by omega)
          rw [openF, HO.out]
          simp only
          rw [if_pos HS.out]
        go_wp2
        go_ret2
        exact ⟨by unfold openV; rw [HF.out]; rfl, by first | trivial | rfl⟩
      · have s0b : (s == 2) = false := by simpa using s0
        go_wp2
        go_roundw
        case rel => exact ⟨k + 1, by omega, by go_num, by unfold Hid; rw [openF, HO.out]; simp only; rw [if_neg (by rw [HS.out]; exact s0)], by first | trivial | rfl⟩
        case measure => simp [intOf]; omega
    · have hkn : k = es.length := by omega
      subst hkn
      go_wp2
      go_ret2
      exact ⟨by unfold openV; rw [HO.out]; rfl, by first | trivial | rfl⟩
set_option maxHeartbeats 1000000 in
theorem rlog_any (gr gl g c : Nat) (P : Int) (es : List Ent) (cur last vic : Int) (i : Nat) (w : World) (h : RefB w gr gl g c P es cur last vic) (hi : i < es.length) (hn : es.length ≤ 5000) :
    Calls Try.prog 40 #[.pointer (some ⟨gr, 0, none⟩), .int .i64 i] w fun e w' => e = .returned (.bool (logE (es.getD i Ent.zero))) ∧ w = w' := by
  obtain ⟨c0, c1, c2, c3, c4, c5⟩ := h.cells
  obtain ⟨x0, _, _, _⟩ := h.entry i hi
  have y0 := h.leftC i hi
  unfold logE
  obtain ⟨s, hs⟩ : ∃ s, (es.getD i Ent.zero).s = s := ⟨_, rfl⟩
  obtain ⟨b, hb⟩ : ∃ b, (es.getD i Ent.zero).left = b := ⟨_, rfl⟩
  rw [hs] at x0 ⊢
  rw [hb] at y0 ⊢
  have d1 : (i : Int) < es.length := by omega
  clear h hs hb
  by_cases s1 : s = 1
  · subst s1
    go_enter Try.func40, Try.ntmps40
    go_wp2
    go_ret
    exact ⟨ret_bool rfl, rfl⟩
  · have s1b : (s == 1) = false := by simpa using s1
    by_cases s2 : s = 2
    · subst s2
      go_enter Try.func40, Try.ntmps40
      go_wp2
      go_ret
      exact ⟨ret_bool rfl, rfl⟩
    · have s2b : (s == 2) = false := by simpa using s2
      by_cases s4 : s = 4
      · subst s4
        go_enter Try.func40, Try.ntmps40
        go_wp2
        go_ret
        exact ⟨ret_bool (by simp [loggedB]), rfl⟩
      · have s4b : (s == 4) = false := by simpa using s4
        go_enter Try.func40, Try.ntmps40
        go_wp2
        go_ret
        exact ⟨ret_bool (by simp [loggedB, s1, s2, s4]), rfl⟩
set_option maxHeartbeats 1000000 in
theorem rlogged_cnt (gr gl g c : Nat) (P : Int) (es : List Ent) (cur last vic : Int) (w : World) (h : RefB w gr gl g c P es cur last vic) (hn : es.length ≤ 5000) :
    Calls Try.prog 14 #[.pointer (some ⟨gr, 0, none⟩)] w fun e w' => e = .returned (.int .i64 (cntP logE es es.length : Nat)) ∧ w = w' := by
  obtain ⟨c0, c1, c2, c3, c4, c5⟩ := h.cells
  have HB : Hid (RefB w gr gl g c P es cur last vic) := h
  clear h
  go_enter Try.func14, Try.ntmps14
  go_wp2
  go_loopw [3, 4] (fun s3 s4 wr => ∃ k : Nat, k ≤ es.length ∧ s4 = .int .i64 k ∧ s3 = .int .i64 (cntP logE es k : Nat) ∧ w = wr)
    (fun _ i _ => es.length - (intOf i).toNat)
  case atStart => exact ⟨0, Nat.zero_le _, rfl, rfl, rfl⟩
  case round =>
    obtain ⟨k, hk, rfl, rfl, rfl⟩ := hrel
    have hcl := cntP_le logE es k
    by_cases hlt : k < es.length
    · have d1 : (k : Int) < es.length := by omega
      obtain ⟨lv, hv⟩ : ∃ lv, logE (es.getD k Ent.zero) = lv := ⟨_, rfl⟩
      have HV : Hid _ := hv
      have HL : Hid (cntP logE es (k + 1) = cntP logE es k + (if lv then 1 else 0)) := by unfold Hid; rw [cntP, hv]
      clear hv
      cases lv with
      | false =>
        go_wp2_with (first | (go_at_call 40; refine (rlog_any gr gl g c P es cur last vic k _ HB.out hlt hn).mono ?_; rintro e u1 ⟨rfl, rfl⟩; rw [HV.out]))
        go_roundw
        case rel => exact ⟨k + 1, by omega, by go_num, by rw [HL.out]; rfl, by first | trivial | rfl⟩
        case measure => simp [intOf]; omega
      | true =>
        go_wp2_with (first | (go_at_call 40; refine (rlog_any gr gl g c P es cur last vic k _ HB.out hlt hn).mono ?_; rintro e u1 ⟨rfl, rfl⟩; rw [HV.out]))
        go_roundw
        case rel => exact ⟨k + 1, by omega, by go_num, by rw [HL.out]; simp, by first | trivial | rfl⟩
        case measure => simp [intOf]; omega
    · have hkn : k = es.length := by omega
      subst hkn
      go_wp2
      go_ret
      exact ⟨rfl, by first | trivial | rfl⟩
set_option maxHeartbeats 1000000 in
theorem rcount_any (gr gl g c : Nat) (P : Int) (es : List Ent) (cur last vic x y z : Int) (w : World) (h : RefB w gr gl g c P es cur last vic) (hn : es.length ≤ 5000) :
    Calls Try.prog 73 #[.pointer (some ⟨gr, 0, none⟩), .int .i64 x, .int .i64 y, .int .i64 z] w fun e w' => e = .returned (.int .i64 (cnt [x, y, z] es es.length : Nat)) ∧ w = w' := by
  obtain ⟨c0, c1, c2, c3, c4, c5⟩ := h.cells
  have HB : Hid (RefB w gr gl g c P es cur last vic) := h
  clear h
  go_enter Try.func73, Try.ntmps73
  go_wp2
  go_loopw [9, 10, 11] (fun s9 s10 s11 wr => ∃ k : Nat, k ≤ es.length ∧ s10 = .int .i64 k ∧ s9 = .int .i64 (cnt [x, y, z] es k : Nat) ∧ w = wr)
    (fun _ i _ _ => es.length - (intOf i).toNat)
  case atStart => exact ⟨0, Nat.zero_le _, rfl, rfl, rfl⟩
  case round =>
    obtain ⟨k, hk, rfl, rfl, rfl⟩ := hrel
    have hcl := cnt_le [x, y, z] es k
    by_cases hlt : k < es.length
    · have d1 : (k : Int) < es.length := by omega
      obtain ⟨e0, _, _, _⟩ := HB.out.entry k hlt
      obtain ⟨s, hs⟩ : ∃ s, (es.getD k Ent.zero).s = s := ⟨_, rfl⟩
      rw [hs] at e0
      have HL : Hid (cnt [x, y, z] es (k + 1) = cnt [x, y, z] es k + (if s = x ∨ s = y ∨ s = z then 1 else 0)) := by unfold Hid; rw [cnt, hs]; simp
      clear hs
      by_cases hx : s = x
      · have hxb : (s == x) = true := by simpa using hx
        have HX : Hid _ := hx
        clear hx
        go_wp2
        go_roundw
        case rel => exact ⟨k + 1, by omega, by go_num, by rw [HL.out, if_pos (Or.inl HX.out)]; simp, by first | trivial | rfl⟩
        case measure => simp [intOf]; omega
      · have hxb : (s == x) = false := by simpa using hx
        by_cases hy : s = y
        · have hyb : (s == y) = true := by simpa using hy
          have HX : Hid _ := hy
          clear hy
          go_wp2
          go_roundw
          case rel => exact ⟨k + 1, by omega, by go_num, by rw [HL.out, if_pos (Or.inr (Or.inl HX.out))]; simp, by first | trivial | rfl⟩
          case measure => simp [intOf]; omega
        · have hyb : (s == y) = false := by simpa using hy
          by_cases hz : s = z
          · have hzb : (s == z) = true := by simpa using hz
            have HX : Hid _ := hz
            clear hz
            go_wp2
            go_roundw
            case rel => exact ⟨k + 1, by omega, by go_num, by rw [HL.out, if_pos (Or.inr (Or.inr HX.out))]; simp, by first | trivial | rfl⟩
            case measure => simp [intOf]; omega
          · have hzb : (s == z) = false := by simpa using hz
            have HX : Hid (¬ (s = x ∨ s = y ∨ s = z)) := fun q => q.elim hx (fun q => q.elim hy hz)
            clear hx hy hz
            go_wp2
            go_roundw
            case rel => exact ⟨k + 1, by omega, by go_num, by rw [HL.out, if_neg HX.out]; simp, by first | trivial | rfl⟩
            case measure => simp [intOf]; omega
    · have hkn : k = es.length := by omega
      subst hkn
      go_wp2
      go_ret
      exact ⟨rfl, by first | trivial | rfl⟩
theorem rnear_any (gr gl g c : Nat) (P : Int) (es : List Ent) (cur last vic : Int) (w : World) (h : RefB w gr gl g c P es cur last vic) (hn : es.length ≤ 5000) :
    Calls Try.prog 54 #[.pointer (some ⟨gr, 0, none⟩)] w fun e w' => e = .returned (.int .i64 (cnt [0, 5, 3] es es.length : Nat)) ∧ w = w' := by
  have HB : Hid (RefB w gr gl g c P es cur last vic) := h
  clear h
  go_enter Try.func54, Try.ntmps54
  go_wp2_with (first | (go_at_call 73; refine (rcount_any gr gl g c P es cur last vic 0 5 3 _ HB.out hn).mono ?_; rintro e u1 ⟨rfl, rfl⟩))
  go_ret
  exact ⟨rfl, rfl⟩
theorem cnt_646 (es : List Ent) : ∀ k, cnt [6, 4, 6] es k = cnt [6, 4] es k
  | 0 => rfl
  | k + 1 => by
    rw [cnt, cnt, cnt_646 es k]
    congr 1
    by_cases h : (es.getD k Ent.zero).s ∈ ([6, 4] : List Int)
    · rw [if_pos h, if_pos (by simp at h ⊢; omega)]
    · rw [if_neg h, if_neg (by simp at h ⊢; omega)]
set_option maxHeartbeats 1000000 in
theorem rgood_any (gr gl g c : Nat) (P : Int) (es : List Ent) (cur last vic : Int) (w : World) (h : RefB w gr gl g c P es cur last vic) (hn : es.length ≤ 5000) :
    Calls Try.prog 53 #[.pointer (some ⟨gr, 0, none⟩)] w fun e w' => e = .returned (.int .i64 ((es.length : Int) - (cnt [6, 4] es es.length : Nat))) ∧ ∃ q, w' = w.drewN q := by
  obtain ⟨c0, c1, c2, c3, c4, c5⟩ := h.cells
  have HB : Hid (RefB w gr gl g c P es cur last vic) := h
  have hcl := cnt_le [6, 4] es es.length
  obtain ⟨C, hC⟩ : ∃ C, cnt [6, 4] es es.length = C := ⟨_, rfl⟩
  have HC : Hid (cnt [6, 4, 6] es es.length = C) := by unfold Hid; rw [cnt_646]; exact hC
  rw [hC] at hcl ⊢
  clear h hC
  go_enter Try.func53, Try.ntmps53
  go_wp2
  go_quiet (first | (go_at_call 73; refine Calls.quiet_of_same (v := .int .i64 (C : Int)) ?_; refine (rcount_any gr gl g c P es cur last vic 6 4 6 _ (HB.out.drewN _) hn).mono ?_; rintro e u1 ⟨rfl, rfl⟩; rw [HC.out]; exact ⟨rfl, rfl⟩))
  go_wp2
  go_ret
  exact ⟨rfl, _, rfl⟩
end Go.Proofs.Ytgijbpkfheillaa
