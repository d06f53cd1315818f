/-
  SEAT Ytnopljjngbgpdaa: pages and blocks.
-/
import Derived.Test.YtnopljjngbgpdaaNg
import Derived.RangeFuncBox
namespace Go.Proofs.Ytnopljjngbgpdaa
open Go.RowKit
set_option linter.unusedVariables false

theorem fits_nat {b p s : Nat} (h : Fits b p s = true) : 8 ≤ b ∧ b ≤ 4096 ∧ 4 ≤ p ∧ p ≤ 256 ∧ 1 ≤ s ∧ s ≤ 8 ∧ b * p ≤ 65536 := by
  have h0 := of_decide_eq_true h
  refine ⟨by omega, by omega, by omega, by omega, by omega, by omega, ?_⟩
  have := h0.2.2.2.2.2.2
  rw [← Int.natCast_mul] at this
  omega

theorem blk_own {β : Type} (i : Nat) (cs : Array Value) (t : TypeId) (f : Nat × Nat) : Go.Own (fun (_ : β) W => W.heap[i]? = some (.cells cs t f)) := by
  intro s X Y row hs hg hrow
  refine (hg.block i (Array.getElem?_eq_some_iff.1 hs).1 (fun e => ?_)).trans hs
  obtain ⟨o, ho, hc⟩ := hrow i e.symm
  rw [hs] at ho
  cases ho
  cases hc

def pgK (zs : List Int) (L k : Nat) : List Int := (zs.drop (k * L)).take L

theorem pgK_len {zs : List Int} {L N k : Nat} (hz : zs.length = N * L) (hk : k < N) : (pgK zs L k).length = L := by
  have := Nat.mul_le_mul_right L (show k + 1 ≤ N from hk)
  rw [Nat.succ_mul] at this
  simp [pgK, hz]
  omega

theorem Reads.page {w : World} {bk off n L N k : Nat} {zs : List Int} (h : Reads w (some ⟨bk, off, none⟩) n zs) (hn : n = N * L) (hk : k < N) (hL : 0 < L) : Reads w (some ⟨bk, off + k * L, none⟩) L (pgK zs L k) := by
  have h1 := Nat.mul_le_mul_right L (show k + 1 ≤ N from hk)
  rw [Nat.succ_mul] at h1
  obtain ⟨b', o', he, h2⟩ := h.part (k * L) (k * L + L) (by omega) (by omega) (by omega)
  cases he
  rw [show k * L + L - k * L = L by omega] at h2
  exact h2

theorem blk_ne {w : World} {i j : Nat} {cs cs' : Array Value} {t t' : TypeId} {f f' : Nat × Nat} (hi : w.heap[i]? = some (.cells cs t f)) (hj : w.heap[j]? = some (.cells cs' t' f')) (h : t ≠ t') : i ≠ j := by
  intro e
  rw [e, hj] at hi
  cases hi
  exact h rfl

theorem blk_other {w w' : World} {i j : Nat} {cs cs' : Array Value} {t t' : TypeId} {f f' : Nat × Nat} (hi : w.heap[i]? = some (.cells cs t f)) (hj : w.heap[j]? = some (.cells cs' t' f')) (h : t ≠ t') (hg : w.grownBy w' (some j)) : w'.heap[i]? = some (.cells cs t f) :=
  (hg.block i (Array.getElem?_eq_some_iff.1 hi).1 (fun e => blk_ne hi hj h (by cases e; rfl))).trans hi


end Go.Proofs.Ytnopljjngbgpdaa
