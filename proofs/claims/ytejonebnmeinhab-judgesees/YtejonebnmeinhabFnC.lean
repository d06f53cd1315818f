/-
  SEAT Ytejonebnmeinhab: judge.New; the reference's New.
-/
import Derived.Test.YtejonebnmeinhabFnA
namespace Go.Proofs.Ytejonebnmeinhab
open Go.RowKit
set_option linter.unusedVariables false

def ReadsB (w : World) (a : Option Addr) (len : Nat) (bs : List Bool) : Prop :=
  bs.length = len ∧ (a = none → len = 0) ∧ ∀ x, a = some x → ∀ i, i < len → w.cell? (x.add i) = some (.bool (bs.getD i false))

theorem plain_add (b off j : Nat) : (⟨b, off, none⟩ : Addr).add j = ⟨b, off + j, none⟩ := by unfold Addr.add; split <;> simp_all

theorem ReadsB.pos {w : World} {a : Option Addr} {len : Nat} {bs : List Bool} (h : ReadsB w a len bs) (hp : 0 < len) :
    ∃ b off, a = some ⟨b, off, none⟩ ∧ b < w.heap.size ∧ ∀ i, i < len → w.cell? ⟨b, off + i, none⟩ = some (.bool (bs.getD i false)) := by
  obtain ⟨hl, hn, hc⟩ := h
  cases a with
  | none => have := hn rfl; omega
  | some x =>
    obtain ⟨b, off, spot⟩ := x
    have h0 := hc _ rfl 0 hp
    have hspot : spot = none := by simpa [Addr.add] using World.cell?_spot h0
    subst hspot
    refine ⟨b, off, rfl, by simpa [Addr.add] using block_lt_of_cell h0, fun i hi => ?_⟩
    have h1 := hc _ rfl i hi
    rw [plain_add] at h1
    exact h1

theorem ReadsB.below {w w' : World} {a : Option Addr} {len : Nat} {bs : List Bool} (h : ReadsB w a len bs) (hb : Below w.heap.size w w') : ReadsB w' a len bs := by
  obtain ⟨hl, hn, hc⟩ := h
  refine ⟨hl, hn, fun x hx i hi => ?_⟩
  have h1 := hc x hx i hi
  rw [hb.cell (block_lt_of_cell h1)]
  exact h1

theorem box3 {w u : World} {b p s : Int} (h : Below (w.alloc (.cells #[.int .i64 b, .int .i64 p, .int .i64 s] 23)).heap.size (w.alloc (.cells #[.int .i64 b, .int .i64 p, .int .i64 s] 23)) u) :
    u.cell? ⟨w.heap.size, 0, none⟩ = some (.int .i64 b) ∧ u.cell? ⟨w.heap.size, 1, none⟩ = some (.int .i64 p) ∧ u.cell? ⟨w.heap.size, 2, none⟩ = some (.int .i64 s) := by
  refine ⟨?_, ?_, ?_⟩ <;> (rw [h.cell (by simp)]; simp)

theorem fits_b {b p s : Int} (h : Fits b p s = true) : 8 ≤ b ∧ b ≤ 4096 ∧ 4 ≤ p ∧ p ≤ 256 := by
  have := of_decide_eq_true h
  omega

/-- What New answers: the error. -/
def newE (b p s : Int) (len : Nat) : Int := if Fits b p s then (if (len : Int) = b then 0 else 41) else 40

set_option maxHeartbeats 1000000 in
theorem rnew_any (b p s : Int) (a : Option Addr) (len cap : Nat) (w : World) (hl : len ≤ 140737488355000) : Calls Try.prog 21 #[.agg #[.int .i64 b, .int .i64 p, .int .i64 s], .slice a len cap] w fun e w' => e = .returned (.int .i64 (newE b p s len)) ∧ Below w.heap.size w w' := by
  have hb0 : Below w.heap.size w (w.alloc (.cells #[.int .i64 b, .int .i64 p, .int .i64 s] 23)) := (Below.refl _ _).alloc (Nat.le_refl _) _
  cases hf : Fits b p s with
  | true =>
    by_cases hb : (len : Int) = b
    · subst hb
      have hE : newE len p s len = 0 := by simp [newE, hf]
      rw [hE]
      go_enter Try.func21, Try.ntmps21
      go_wp2_with (first
        | (go_at_call 78; refine (rfits_any _ _ _ _).mono ?_; rintro e u1 ⟨rfl, bel1⟩; rw [hf]; obtain ⟨c0, c1, c2⟩ := box3 bel1))
      go_ret
      exact ⟨rfl, below_trans hb0 bel1⟩
    · have hE : newE b p s len = 41 := by simp [newE, hf, hb]
      have e1 : ((len : Int) == b) = false := by simpa using hb
      rw [hE]
      go_enter Try.func21, Try.ntmps21
      go_wp2_with (first
        | (go_at_call 78; refine (rfits_any _ _ _ _).mono ?_; rintro e u1 ⟨rfl, bel1⟩; rw [hf]; obtain ⟨c0, c1, c2⟩ := box3 bel1))
      go_ret
      exact ⟨rfl, below_trans hb0 bel1⟩
  | false =>
    have hE : newE b p s len = 40 := by simp [newE, hf]
    rw [hE]
    go_enter Try.func21, Try.ntmps21
    go_wp2_with (first
      | (go_at_call 78; refine (rfits_any _ _ _ _).mono ?_; rintro e u1 ⟨rfl, bel1⟩; rw [hf]))
    go_ret
    exact ⟨rfl, below_trans hb0 bel1⟩

set_option maxHeartbeats 1000000 in
theorem new_bad (b p s : Int) (a : Option Addr) (len cap : Nat) (clean : Bool) (w : World) (hl : len ≤ 140737488355000) (hE : newE b p s len ≠ 0) : Calls Try.prog 25 #[.agg #[.int .i64 b, .int .i64 p, .int .i64 s], .slice a len cap, .bool clean] w fun e w' => e = .returned (.tuple #[.pointer none, .int .i64 (newE b p s len)]) ∧ Below w.heap.size w w' := by
  have hb0 : Below w.heap.size w (w.alloc (.cells #[.int .i64 b, .int .i64 p, .int .i64 s] 23)) := (Below.refl _ _).alloc (Nat.le_refl _) _
  cases hf : Fits b p s with
  | true =>
    by_cases hb : (len : Int) = b
    · exact absurd (by simp [newE, hf, hb]) hE
    · have hE : newE b p s len = 41 := by simp [newE, hf, hb]
      have e1 : ((len : Int) == b) = false := by simpa using hb
      rw [hE]
      go_enter Try.func25, Try.ntmps25
      go_wp2_with (first
        | (go_at_call 79; refine (mayBe_any _ _ _ _).mono ?_; rintro e u1 ⟨rfl, bel1⟩; rw [hf]; obtain ⟨c0, c1, c2⟩ := box3 bel1))
      go_ret2
      exact ⟨rfl, below_trans hb0 bel1⟩
  | false =>
    have hE : newE b p s len = 40 := by simp [newE, hf]
    rw [hE]
    go_enter Try.func25, Try.ntmps25
    go_wp2_with (first
      | (go_at_call 79; refine (mayBe_any _ _ _ _).mono ?_; rintro e u1 ⟨rfl, bel1⟩; rw [hf]))
    go_ret2
    exact ⟨rfl, below_trans hb0 bel1⟩
end Go.Proofs.Ytejonebnmeinhab
