/-
  SEAT Ytgijbpkfheillaa: the reference's Logged.
-/
import Derived.Test.YtgijbpkfheillaaFpB
namespace Go.Proofs.Ytgijbpkfheillaa
open Go.RowKit
set_option linter.unusedVariables false

theorem RefAt.leftCell {w : World} {B gr gl : Nat} {P : Int} {v : Value} {bs : List Bk} {lf : List Bool} {cur last vic : Int} (h : RefAt w B gr gl P v bs lf cur last vic) (i : Nat) (hi : i < lf.length) : w.cell? ⟨gl, i, none⟩ = some (.bool (lf.getD i false)) := by
  have h1 := h.left
  simp [World.cell?, h1, boolsV, hi, List.getD_eq_getElem?_getD]
set_option maxHeartbeats 1000000 in
theorem rlogged_any (B gr gl : Nat) (P : Int) (v : Value) (bs : List Bk) (lf : List Bool) (cur last vic : Int) (i : Nat) (w : World) (h : RefAt w B gr gl P v bs lf cur last vic) (hok : ∀ c ∈ bs, c.Ok) (hi : i < bs.length) (hl : lf.length = bs.length) (hn : bs.length ≤ 5000) :
    Calls Try.prog 40 #[.pointer (some ⟨gr, 0, none⟩), .int .i64 i] w fun e w' => e = .returned (.bool (loggedB (bs.getD i Bk.zero).s (lf.getD i false))) ∧ w = w' := by
  obtain ⟨a, cap, rfl, hrd⟩ := h.readsK hok
  obtain ⟨c0, c1, c2, c3, c4, c5⟩ := h.cells
  obtain ⟨g, off, rfl, hg, hcell⟩ := hrd.pos (by omega)
  obtain ⟨x0, _, _, _⟩ := hcell i hi
  have y0 := h.leftCell i (by omega)
  obtain ⟨s, hs⟩ : ∃ s, (bs.getD i Bk.zero).s = s := ⟨_, rfl⟩
  obtain ⟨b, hb⟩ : ∃ b, lf.getD i false = b := ⟨_, rfl⟩
  rw [hs] at x0 ⊢
  rw [hb] at y0 ⊢
  rw [hl] at c2
  have d1 : (i : Int) < bs.length := by omega
  clear h hrd hcell hs hb hok
  by_cases s1 : s = 1
  · subst s1
    go_enter Try.func40, Try.ntmps40
    go_wp2
    go_ret
    exact ⟨ret_bool rfl, rfl⟩
  · have s1b : (s == 1) = false := by simpa using s1
    by_cases s2 : s = 2
    · subst s2
      go_enter Try.func40, Try.ntmps40
      go_wp2
      go_ret
      exact ⟨ret_bool rfl, rfl⟩
    · have s2b : (s == 2) = false := by simpa using s2
      by_cases s4 : s = 4
      · subst s4
        go_enter Try.func40, Try.ntmps40
        go_wp2
        go_ret
        exact ⟨ret_bool (by simp [loggedB]), rfl⟩
      · have s4b : (s == 4) = false := by simpa using s4
        go_enter Try.func40, Try.ntmps40
        go_wp2
        go_ret
        exact ⟨ret_bool (by simp [loggedB, s1, s2, s4]), rfl⟩
def rlogP (bs : List Bk) (lf : List Bool) (i : Nat) : Bool := loggedB (bs.getD i Bk.zero).s (lf.getD i false)
set_option maxHeartbeats 1000000 in
theorem rlogged_count (B gr gl : Nat) (P : Int) (v : Value) (bs : List Bk) (lf : List Bool) (cur last vic : Int) (w : World) (h : RefAt w B gr gl P v bs lf cur last vic) (hok : ∀ c ∈ bs, c.Ok) (hl : lf.length = bs.length) (hn : bs.length ≤ 5000) :
    Calls Try.prog 14 #[.pointer (some ⟨gr, 0, none⟩)] w fun e w' => e = .returned (.int .i64 (cntN (rlogP bs lf) bs.length : Nat)) ∧ w = w' := by
  have HR : Hid (RefAt w B gr gl P v bs lf cur last vic) := h
  have HOK : Hid (∀ c ∈ bs, c.Ok) := hok
  obtain ⟨a, cap, rfl, hrd⟩ := h.readsK hok
  obtain ⟨c0, c1, c2, c3, c4, c5⟩ := h.cells
  clear h hok hrd
  go_enter Try.func14, Try.ntmps14
  go_wp2
  go_loopw [3, 4] (fun s3 s4 wr => ∃ k : Nat, k ≤ bs.length ∧ s4 = .int .i64 k ∧ s3 = .int .i64 (cntN (rlogP bs lf) k : Nat) ∧ w = wr)
    (fun _ i _ => bs.length - (intOf i).toNat)
  case atStart => exact ⟨0, Nat.zero_le _, rfl, rfl, rfl⟩
  case round =>
    obtain ⟨k, hk, rfl, rfl, rfl⟩ := hrel
    have hcl := cntN_le (rlogP bs lf) k
    by_cases hlt : k < bs.length
    · have d1 : (k : Int) < bs.length := by omega
      cases hv : rlogP bs lf k with
      | false =>
        have HL : Hid (cntN (rlogP bs lf) (k + 1) = cntN (rlogP bs lf) k) := by unfold Hid; rw [cntN, hv]; rfl
        go_wp2_with (first | (go_at_call 40; refine (rlogged_any B gr gl P _ bs lf cur last vic k _ HR.out HOK.out hlt hl hn).mono ?_; rintro e u1 ⟨rfl, rfl⟩; rw [show loggedB (bs.getD k Bk.zero).s (lf.getD k false) = _ from hv]))
        go_roundw
        case rel => exact ⟨k + 1, by omega, by go_num, by rw [HL.out], by first | trivial | rfl⟩
        case measure => simp [intOf]; omega
      | true =>
        have HL : Hid (cntN (rlogP bs lf) (k + 1) = cntN (rlogP bs lf) k + 1) := by unfold Hid; rw [cntN, hv]; rfl
        go_wp2_with (first | (go_at_call 40; refine (rlogged_any B gr gl P _ bs lf cur last vic k _ HR.out HOK.out hlt hl hn).mono ?_; rintro e u1 ⟨rfl, rfl⟩; rw [show loggedB (bs.getD k Bk.zero).s (lf.getD k false) = _ from hv]))
        go_roundw
        case rel => exact ⟨k + 1, by omega, by go_num, by rw [HL.out]; simp, by first | trivial | rfl⟩
        case measure => simp [intOf]; omega
    · have hkn : k = bs.length := by omega
      subst hkn
      go_wp2
      go_ret
      exact ⟨rfl, rfl⟩
theorem first_logged (bs : List Bk) (n : Nat) (hn : bs.length = n) : cntN (rlogP bs (List.replicate n false)) n = cntP logE (bs.map Bk.ent) n := by
  subst hn
  rw [cntP_N]
  refine cntN_congr _ (fun i hi => ?_)
  unfold rlogP
  rw [entD bs i hi]
  have : (List.replicate bs.length false).getD i false = false := by
    rw [List.getD_eq_getElem?_getD, List.getElem?_replicate]
    split <;> rfl
  rw [this]
  rfl
end Go.Proofs.Ytgijbpkfheillaa
