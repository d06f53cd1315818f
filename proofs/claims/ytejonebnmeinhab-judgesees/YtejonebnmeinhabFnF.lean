/-
  SEAT Ytejonebnmeinhab: Check.
-/
import Derived.Test.YtejonebnmeinhabPure
namespace Go.Proofs.Ytejonebnmeinhab
open Go.RowKit
set_option linter.unusedVariables false

def Cmd.cell (c : Cmd) : Nat → Value
  | 0 => .int .i64 c.k
  | 1 => .int .i64 c.b
  | 2 => .int .i64 c.p
  | _ => .int .i64 c.s
def Cmd.none : Cmd := ⟨0, 0, 0, 0⟩

def ReadsC (w : World) (a : Option Addr) (len : Nat) (cs : List Cmd) : Prop :=
  cs.length = len ∧ (∀ c ∈ cs, c.Ok) ∧ (a = none → len = 0) ∧ ∀ x, a = some x → ∀ i, i < len → ∀ j, j < 4 → w.cell? (x.add (i * 4 + j)) = some ((cs.getD i Cmd.none).cell j)

theorem ReadsC.pos {w : World} {a : Option Addr} {len : Nat} {cs : List Cmd} (h : ReadsC w a len cs) (hp : 0 < len) :
    ∃ b off, a = some ⟨b, off, none⟩ ∧ b < w.heap.size ∧ ∀ i, i < len → w.cell? ⟨b, off + i * 4, none⟩ = some (.int .i64 (cs.getD i Cmd.none).k) ∧ w.cell? ⟨b, off + i * 4 + 1, none⟩ = some (.int .i64 (cs.getD i Cmd.none).b) ∧ w.cell? ⟨b, off + i * 4 + 2, none⟩ = some (.int .i64 (cs.getD i Cmd.none).p) ∧ w.cell? ⟨b, off + i * 4 + 3, none⟩ = some (.int .i64 (cs.getD i Cmd.none).s) := by
  obtain ⟨hl, _, hn, hc⟩ := h
  cases a with
  | none => have := hn rfl; omega
  | some x =>
    obtain ⟨b, off, spot⟩ := x
    have h0 := hc _ rfl 0 hp 0 (by omega)
    have hspot : spot = none := by simpa [Addr.add] using World.cell?_spot h0
    subst hspot
    refine ⟨b, off, rfl, by simpa [Addr.add] using block_lt_of_cell h0, fun i hi => ?_⟩
    have k0 := hc _ rfl i hi 0 (by omega)
    have k1 := hc _ rfl i hi 1 (by omega)
    have k2 := hc _ rfl i hi 2 (by omega)
    have k3 := hc _ rfl i hi 3 (by omega)
    rw [plain_add] at k0 k1 k2 k3
    exact ⟨k0, k1, k2, k3⟩

theorem ReadsC.below {w w' : World} {a : Option Addr} {len : Nat} {cs : List Cmd} (h : ReadsC w a len cs) (hb : Below w.heap.size w w') : ReadsC w' a len cs := by
  obtain ⟨hl, ho, hn, hc⟩ := h
  refine ⟨hl, ho, hn, fun x hx i hi j hj => ?_⟩
  have h1 := hc x hx i hi j hj
  rw [hb.cell (block_lt_of_cell h1)]
  exact h1

theorem okAt {cs : List Cmd} (h : ∀ c ∈ cs, c.Ok) (i : Nat) (hi : i < cs.length) : (cs.getD i Cmd.none).Ok := by
  rw [List.getD_eq_getElem?_getD, List.getElem?_eq_getElem hi]
  exact h _ (List.getElem_mem hi)

theorem getC {cs : List Cmd} {i : Nat} (hi : i < cs.length) : cs[i]? = some (cs.getD i Cmd.none) := by
  rw [List.getD_eq_getElem?_getD, List.getElem?_eq_getElem hi]
  rfl

theorem start_length (clean : Bool) (p : Int) (bs : List Bool) : (start clean p bs).length = bs.length := by simp [start]

set_option maxHeartbeats 1000000 in
theorem check_bad (b p s : Int) (a a' : Option Addr) (len cap n cap' : Nat) (clean : Bool) (w : World) (hl : len ≤ 140737488355000) (hE : newE b p s len ≠ 0) :
    Calls Try.prog 22 #[.agg #[.int .i64 b, .int .i64 p, .int .i64 s], .slice a len cap, .bool clean, .slice a' n cap'] w fun e w' => e = .returned (.tuple #[.int .i64 0, .int .i64 (newE b p s len)]) ∧ Below w.heap.size w w' := by
  have hb0 : Below w.heap.size w (w.alloc (.cells #[.int .i64 b, .int .i64 p, .int .i64 s] 23)) := (Below.refl _ _).alloc (Nat.le_refl _) _
  obtain ⟨E, hEE⟩ : ∃ E, newE b p s len = E := ⟨_, rfl⟩
  have e1 : (E == 0) = false := by rw [← hEE]; simpa using hE
  go_enter Try.func22, Try.ntmps22
  go_wp2_with (first
    | (go_at_call 25; refine (new_bad b p s _ _ _ _ _ hl hE).mono ?_; rintro e u1 ⟨rfl, bel1⟩; rw [hEE]))
  go_ret2
  exact ⟨by rw [hEE]; rfl, below_trans hb0 bel1⟩

set_option maxHeartbeats 1000000 in
theorem check_ok (b p s : Int) (a a' : Option Addr) (len cap n cap' : Nat) (bs : List Bool) (cs : List Cmd) (clean : Bool) (w : World) (hE : newE b p s len = 0) (h : ReadsB w a len bs) (hc : ReadsC w a' n cs) (hn : n ≤ 140737488355000) :
    Calls Try.prog 22 #[.agg #[.int .i64 b, .int .i64 p, .int .i64 s], .slice a len cap, .bool clean, .slice a' n cap'] w fun e w' => e = .returned (.tuple #[.int .i64 (chkI (chk p (start clean p bs) cs)), .int .i64 0]) ∧ Below w.heap.size w w' := by
  have hb0 : Below w.heap.size w (w.alloc (.cells #[.int .i64 b, .int .i64 p, .int .i64 s] 23)) := (Below.refl _ _).alloc (Nat.le_refl _) _
  have hf : Fits b p s = true := by
    cases hf : Fits b p s with
    | true => rfl
    | false => simp [newE, hf] at hE
  have hbd := fits_b hf
  have hlb : (len : Int) = b := by
    by_cases hb : (len : Int) = b
    · exact hb
    · simp [newE, hf, hb] at hE
  have hp : 4 ≤ p ∧ p ≤ 256 := ⟨hbd.2.2.1, hbd.2.2.2⟩
  obtain ⟨st, hst⟩ : ∃ st, start clean p bs = st := ⟨_, rfl⟩
  have hsl : st.length = len := by rw [← hst, start_length]; exact h.1
  rw [hst]
  have hb1 := h.below hb0
  have hlen := hc.1
  obtain ⟨R, hR⟩ : ∃ R, chkI (chk p st cs) = R := ⟨_, rfl⟩
  rw [hR]
  have HR : Hid (chkI (chk p st cs) = R) := hR
  clear hR
  go_enter Try.func22, Try.ntmps22
  go_wp2_with (first
    | (go_at_call 25; refine (new_ok b p s _ _ _ bs _ _ hE hb1).mono ?_; rintro e u1 ⟨gj, bm, rfl, J1, bel1, lj, lb⟩; rw [hst] at J1; have belw := below_trans hb0 bel1; have hrd := hc.below belw))
  have lw0 : w.heap.size ≤ (w.alloc (.cells #[.int .i64 b, .int .i64 p, .int .i64 s] 23)).heap.size := by simp
  have lb2 : w.heap.size ≤ bm := by omega
  go_loopw [26] (fun i wr => ∃ (k : Nat) (st' : List Blk), k ≤ n ∧ i = .int .i64 k ∧ Hid (runs p st (cs.take k) = some st') ∧ JudgeAt wr gj b p s bm st' ∧ Below w.heap.size w wr ∧ st'.length = len)
    (fun i _ => n - (intOf i).toNat)
  case atStart => exact ⟨0, st, Nat.zero_le _, rfl, rfl, J1, belw, hsl⟩
  case round =>
    obtain ⟨k, st', hk, rfl, hrun, J, bel, hsl'⟩ := hrel
    by_cases hlt : k < n
    · have hrd := hc.below bel
      obtain ⟨g, off, rfl, hg, hcell⟩ := hrd.pos (by omega)
      obtain ⟨c, hcd⟩ : ∃ c, c = cs.getD k Cmd.none := ⟨_, rfl⟩
      obtain ⟨x0, x1, x2, x3⟩ := hcell k hlt
      rw [← hcd] at x0 x1 x2 x3
      have hok : c.Ok := by rw [hcd]; exact okAt hc.2.1 k (by omega)
      have hget : cs[k]? = some c := by rw [hcd]; exact getC (by omega)
      cases hs : see p st' c with
      | none =>
        have hres : R = k := by rw [← HR.out, chk_at hget hrun.out hs]; rfl
        have hsee := fun w1 (J1 : JudgeAt w1 gj b p s bm st') => see_any gj bm b p s st' c w1 J1 hok hp (by omega)
        rw [hs] at hsee
        clear hget hrun hs hcd hok hcell hrd h hc hb1 J1
        obtain ⟨ck, cb, cp, cs'⟩ := c
        go_wp2_with (first
          | (go_at_call 26; refine (hsee _ ?_).mono ?_; exact J.grown (World.grownBy_alloc _ _ _); rintro e u2 ⟨rfl, J2, g2⟩))
        go_ret2
        exact ⟨by rw [hres]; rfl, (bel.alloc bel.size _).grown g2 (by have := bel.size; simp; omega) (fun j hj => by cases hj; exact lb2)⟩
      | some st2 =>
        have hrun2 : Hid (runs p st (cs.take (k + 1)) = some st2) := runs_step hget hrun.out hs
        have hl2 := (see_length hs).trans hsl'
        have hsee := fun w1 (J1 : JudgeAt w1 gj b p s bm st') => see_any gj bm b p s st' c w1 J1 hok hp (by omega)
        rw [hs] at hsee
        clear hget hrun hs hcd hok hcell hrd J1
        obtain ⟨ck, cb, cp, cs'⟩ := c
        go_wp2_with (first
          | (go_at_call 26; refine (hsee _ ?_).mono ?_; exact J.grown (World.grownBy_alloc _ _ _); rintro e u2 ⟨rfl, J2, g2⟩))
        have belF := (bel.alloc bel.size (.cells #[.int .i64 ck, .int .i64 cb, .int .i64 cp, .int .i64 cs'] 73)).grown g2 (by have := bel.size; simp; omega) (fun j hj => by cases hj; exact lb2)
        go_roundw
        case rel => exact ⟨k + 1, st2, by omega, by go_num, hrun2, J2, belF, hl2⟩
        case measure => simp [intOf]; omega
    · have hkl : k = n := by omega
      subst hkl
      have hr := hrun.out
      rw [List.take_of_length_le (by omega)] at hr
      have hres : R = -1 := by rw [← HR.out, chk_runs.2 (by rw [hr]; rfl)]; rfl
      go_wp2
      go_ret2
      exact ⟨by rw [hres]; rfl, bel⟩
end Go.Proofs.Ytejonebnmeinhab
