/-
  SEAT Ytejonebnmeinhab: the reference's Check.
-/
import Derived.Test.YtejonebnmeinhabRefF
namespace Go.Proofs.Ytejonebnmeinhab
open Go.RowKit
set_option linter.unusedVariables false

theorem see_page {P : Int} {st st' : List Blk} {c : Cmd} (h : see P st c = some st') (hk : c.k = 1) : c.p < P := by
  unfold see at h
  split at h
  · rename_i hh
    have h2 := hh.2.2.2
    simp only [kpt, hk, if_true, Bool.and_eq_true, decide_eq_true_eq] at h2
    exact h2.2.2
  · cases h

theorem runs_pages {P : Int} {st st' : List Blk} {cs : List Cmd} (h : runs P st cs = some st') : ∀ c ∈ cs, c.k = 1 → c.p < P := by
  induction cs generalizing st with
  | nil => intro c hc; cases hc
  | cons d r ih =>
    simp only [runs] at h
    cases hs : see P st d with
    | none => rw [hs] at h; simp at h
    | some st1 =>
      rw [hs] at h
      intro c hc hk
      rcases List.mem_cons.1 hc with rfl | hc
      · exact see_page hs hk
      · exact ih h c hc hk

theorem runs_know {P : Int} {clean : Bool} {bs : List Bool} {cs : List Cmd} {st : List Blk} (h : runs P (start clean P bs) cs = some st) : st = know P clean bs cs := by
  have key : ∀ (pre : List Cmd) (ds : List Cmd) (st : List Blk), runs P (know P clean bs pre) ds = some st → st = know P clean bs (pre ++ ds) := by
    intro pre ds
    induction ds generalizing pre with
    | nil => intro st h; simp [runs] at h; simp [h]
    | cons d r ih =>
      intro st h
      simp only [runs] at h
      cases hs : see P (know P clean bs pre) d with
      | none => rw [hs] at h; simp at h
      | some st1 =>
        rw [hs] at h
        have e := know_step hs
        subst e
        have := ih (pre ++ [d]) st h
        simpa using this
  have := key [] cs st (by rw [know_nil]; exact h)
  simpa using this

set_option maxHeartbeats 1000000 in
theorem rcheck_bad (b p s : Int) (a a' : Option Addr) (len cap n cap' : Nat) (clean : Bool) (w : World) (hl : len ≤ 140737488355000) (hE : newE b p s len ≠ 0) :
    Calls Try.prog 27 #[.agg #[.int .i64 b, .int .i64 p, .int .i64 s], .slice a len cap, .bool clean, .slice a' n cap'] w fun e w' => e = .returned (.tuple #[.int .i64 0, .int .i64 (newE b p s len)]) ∧ Below w.heap.size w w' := by
  have hb0 : Below w.heap.size w (w.alloc (.cells #[.int .i64 b, .int .i64 p, .int .i64 s] 23)) := (Below.refl _ _).alloc (Nat.le_refl _) _
  obtain ⟨E, hEE⟩ : ∃ E, newE b p s len = E := ⟨_, rfl⟩
  have e1 : (E == 0) = false := by rw [← hEE]; simpa using hE
  go_enter Try.func27, Try.ntmps27
  go_wp2_with (first
    | (go_at_call 21; refine (rnew_any b p s _ _ _ _ hl).mono ?_; rintro e u1 ⟨rfl, bel1⟩; rw [hEE]))
  go_ret2
  exact ⟨by rw [hEE]; rfl, below_trans hb0 bel1⟩

set_option maxHeartbeats 1000000 in
theorem rcheck_ok (b p s : Int) (a a' : Option Addr) (len cap n cap' : Nat) (bs : List Bool) (cs : List Cmd) (clean : Bool) (w : World) (hE : newE b p s len = 0) (h : ReadsB w a len bs) (hc : ReadsC w a' n cs) (hn : n * 32 ≤ 140737488351232) :
    Calls Try.prog 27 #[.agg #[.int .i64 b, .int .i64 p, .int .i64 s], .slice a len cap, .bool clean, .slice a' n cap'] w fun e w' => e = .returned (.tuple #[.int .i64 (chkI (chk p (start clean p bs) cs)), .int .i64 0]) ∧ Below w.heap.size w w' := by
  have hb0 : Below w.heap.size w (w.alloc (.cells #[.int .i64 b, .int .i64 p, .int .i64 s] 23)) := (Below.refl _ _).alloc (Nat.le_refl _) _
  have hf : Fits b p s = true := by
    cases hf : Fits b p s with
    | true => rfl
    | false => simp [newE, hf] at hE
  have hbd := fits_b hf
  have hlb : (len : Int) = b := by
    by_cases hb : (len : Int) = b
    · exact hb
    · simp [newE, hf, hb] at hE
  have hlen := hc.1
  have hbl := h.1
  have HBB : Hid (b = (len : Int)) := hlb.symm
  have hll : 8 ≤ len ∧ len ≤ 4096 := by omega
  clear hlb
  obtain ⟨R, hR⟩ : ∃ R, chkI (chk p (start clean p bs) cs) = R := ⟨_, rfl⟩
  rw [hR]
  have HR : Hid (chkI (chk p (start clean p bs) cs) = R) := hR
  clear hR
  go_enter Try.func27, Try.ntmps27
  go_wp2_with (first
    | (go_at_call 21; refine (rnew_any b p s _ _ _ _ ?_).mono ?_; omega; rintro e u1 ⟨rfl, bel1⟩; rw [hE]; obtain ⟨c0, c1, c2⟩ := box3 bel1; have belw := below_trans hb0 bel1))
  obtain ⟨u2, hu2⟩ : ∃ u2, u2 = u1.alloc (.cells #[.int .i64 b, .int .i64 p, .int .i64 s, .slice a len cap, .bool clean, .slice none 0 0] 156) := ⟨_, rfl⟩
  have bel2 : Below u1.heap.size u1 u2 := by rw [hu2]; exact (Below.refl _ _).alloc (Nat.le_refl _) _
  have R0 : RefOwn u2 u1.heap.size u1.heap.size b p s a len cap bs clean (.slice none 0 0) 0 ([] : List Cmd) := by
    refine ⟨by rw [hu2]; simp, by rw [hu2]; simp, by rw [hu2]; simp, by rw [hu2]; simp, by rw [hu2]; simp, by rw [hu2]; simp, by rw [hu2]; simp, (h.below belw).below bel2, ?_, World.ownsRow_nil _ _ _ _, by simp [Value.ownBlock], (fun c hc => by cases hc), Nat.le_refl _⟩
    intro x hx
    subst hx
    rcases Nat.eq_zero_or_pos len with h0 | h0
    · omega
    · obtain ⟨g, off, e, hg, _⟩ := (h.below belw).pos h0
      cases e
      exact hg
  rw [← hu2]
  clear hu2
  go_loopw [12] (fun i wr => ∃ (k : Nat) (v : Value) (st : List Blk), k ≤ n ∧ i = .int .i64 k ∧ Hid (runs p (start clean p bs) (cs.take k) = some st) ∧ RefOwn wr u1.heap.size u1.heap.size b p s a len cap bs clean v k (cs.take k) ∧ Below u1.heap.size u1 wr)
    (fun i _ => n - (intOf i).toNat)
  case atStart => exact ⟨0, _, _, Nat.zero_le _, rfl, rfl, by simpa using R0, bel2⟩
  case round =>
    obtain ⟨k, v, st, hk, rfl, hrun, RO, bel⟩ := hrel
    have belA := below_trans belw bel
    by_cases hlt : k < n
    · obtain ⟨g, off, rfl, hg, hcell⟩ := (hc.below belA).pos (by omega)
      obtain ⟨c, hcd⟩ : ∃ c, c = cs.getD k Cmd.none := ⟨_, rfl⟩
      obtain ⟨x0, x1, x2, x3⟩ := hcell k hlt
      rw [← hcd] at x0 x1 x2 x3
      have hok : c.Ok := by rw [hcd]; exact okAt hc.2.1 k (by omega)
      have hget : cs[k]? = some c := by rw [hcd]; exact getC (by omega)
      have hkn := runs_know hrun.out
      have hpg : Hid (∀ d ∈ cs.take k, d.k = 1 → d.p + 1 ≤ 9223372036854775807) := fun d hd h1 => by have := runs_pages hrun.out d hd h1; omega
      have htk : cs.take (k + 1) = cs.take k ++ [c] := by
        obtain ⟨h1, h2⟩ := List.getElem?_eq_some_iff.1 hget
        rw [List.take_succ_eq_append_getElem h1, h2]
      have hstep := fun st2 (hs : see p st c = some st2) => runs_step hget hrun.out hs
      have hbadk := fun (hs : see p st c = none) => chk_at hget hrun.out hs
      rw [hkn] at hstep hbadk
      have HST : Hid (∀ st2, see p (know p clean bs (cs.take k)) c = some st2 → runs p (start clean p bs) (cs.take (k + 1)) = some st2) := hstep
      have HBD : Hid (see p (know p clean bs (cs.take k)) c = none → chk p (start clean p bs) cs = some k) := hbadk
      have HTK : Hid (cs.take (k + 1) = cs.take k ++ [c]) := htk
      clear hstep hbadk htk hget hcd hcell hkn hrun
      obtain ⟨ck, cb, cp, cq⟩ := c
      cases hs : see p (know p clean bs (cs.take k)) ⟨ck, cb, cp, cq⟩ with
      | none =>
        have hres : R = k := by rw [← HR.out, HBD.out hs]; rfl
        have hs0 : Hid ((see p (know p clean bs (cs.take k)) ⟨ck, cb, cp, cq⟩).isSome = false) := by unfold Hid; rw [hs]; rfl
        clear hs HBD HST HTK HR
        go_wp2_with (first
          | (go_at_call 31; refine (rsee_false _ _ b p s a len cap bs clean v k (cs.take k) _ _ _ _ _ RO hok HBB.out ?_ ?_ hpg.out hs0.out).mono ?_; omega; omega; rintro e u3 ⟨rfl, bel3, R3⟩))
        go_ret2
        exact ⟨by rw [hres]; rfl, belw.trans ((bel.trans (bel3)).mono belw.size)⟩
      | some st2 =>
        have hrun2 : Hid (runs p (start clean p bs) (cs.take (k + 1)) = some st2) := HST.out _ hs
        have hs0 : Hid ((see p (know p clean bs (cs.take k)) ⟨ck, cb, cp, cq⟩).isSome = true) := by unfold Hid; rw [hs]; rfl
        clear hs HBD HST HR
        go_wp2_with (first
          | (go_at_call 31; refine (rsee_true _ _ b p s a len cap bs clean v k (cs.take k) _ _ _ _ _ RO hok HBB.out ?_ ?_ hpg.out hs0.out).mono ?_; omega; omega; rintro e u3 ⟨rfl, bel3, v3, R3⟩; rw [← HTK.out] at R3))
        go_roundw
        case rel => exact ⟨k + 1, v3, st2, by omega, by go_num, hrun2, R3, bel.trans bel3⟩
        case measure => simp [intOf]; omega
    · have hkl : k = n := by omega
      subst hkl
      have hr := hrun.out
      rw [List.take_of_length_le (by omega)] at hr
      have hres : R = -1 := by rw [← HR.out, chk_runs.2 (by rw [hr]; rfl)]; rfl
      go_wp2
      go_ret2
      exact ⟨by rw [hres]; rfl, belA⟩
end Go.Proofs.Ytejonebnmeinhab
