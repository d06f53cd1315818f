/-
  SEAT YtmbdacdgbmpedaaDoor: what walks share.
-/
import Derived.Test.YtmbdacdgbmpedaaDoorWp
namespace Go.Proofs.YtmbdacdgbmpedaaDoor
open Go.RowKit
set_option linter.unusedVariables false

/-- Names to come that lie apart from what is asked. -/
structure Fa (w : World) (cv : Value) (xs : List ByteArray) (gg : Nat) (va : Value) : Prop where
  vw : Vw w cv xs
  far : ∀ k, cv.ownBlock = some k → k < w.heap.size ∧ k ≠ gg ∧ va.ownBlock ≠ some k
theorem rds_kept {w w' : World} {b o n : Nat} {xs : List ByteArray} (h : RdS w (some ⟨b, o, none⟩) n xs) (hb : w'.heap[b]? = w.heap[b]?) : RdS w' (some ⟨b, o, none⟩) n xs :=
  ⟨h.len, h.nil, fun y hy j u hu => by
    injection hy with hy
    subst hy
    have := h.cell _ rfl j u hu
    unfold World.cell? at this ⊢
    have e : ((⟨b, o, none⟩ : Addr).add j).block = b := by simp only [Addr.add]; split <;> rfl
    rw [e, hb]
    rw [e] at this
    exact this⟩
theorem Fa.kp {w w' : World} {cv : Value} {xs : List ByteArray} {gg : Nat} {va v' : Value} (h : Fa w cv xs gg va) (hk : Kp w w' gg va.ownBlock) (hv : ∀ k, v'.ownBlock = some k → va.ownBlock = some k ∨ w.heap.size ≤ k) : Fa w' cv xs gg v' := by
  obtain ⟨⟨a, c, rfl, h1, h2, rd, hx⟩, far⟩ := h
  refine ⟨⟨a, c, rfl, h1, h2, ?_, hx⟩, fun k hk2 => ?_⟩
  · cases a with
    | none => exact ⟨rd.len, rd.nil, fun x hx => by cases hx⟩
    | some x =>
      obtain ⟨b, o, rfl⟩ := hx x rfl
      obtain ⟨f1, f2, f3⟩ := far b rfl
      exact rds_kept rd (hk.block _ f1 f2 (fun e => f3 e.symm))
  · obtain ⟨f1, f2, f3⟩ := far k hk2
    refine ⟨Nat.lt_of_lt_of_le f1 hk.size, f2, fun e => ?_⟩
    rcases hv k e with h' | h'
    · exact f3 h'
    · omega
theorem Fa.tail {w : World} {b o c : Nat} {y : ByteArray} {r : List ByteArray} {gg : Nat} {va : Value} (h : Fa w (.slice (some ⟨b, o, none⟩) (r.length + 1) c) (y :: r) gg va) :
    Fa w (.slice (if c = 1 then some ⟨b, o, none⟩ else some ⟨b, o + 1, none⟩) r.length (c - 1)) r gg va := by
  obtain ⟨⟨a, c', e, h1, h2, rd, hx⟩, far⟩ := h
  injection e with e1 e2 e3
  subst e1
  subst e3
  refine ⟨vw_tail rd h1 h2, fun k hk => far k ?_⟩
  rw [← hk]
  split <;> rfl
theorem Fa.fresh {w w' : World} {B : Nat} {cv : Value} {xs : List ByteArray} {gg : Nat} {va : Value} {qs : List (Int × ByteArray)} (h : Ow w' w.heap.size cv xs) (hg : Got w B gg va qs) : Fa w' cv xs gg va := by
  refine ⟨h.vw, fun k hk => ?_⟩
  obtain ⟨h1, h2⟩ := h.at k hk
  have := hg.lt
  exact ⟨h2, by omega, fun e => by have := (hg.row.at k e).2; omega⟩
theorem Fa.below {w w' : World} {cv : Value} {xs : List ByteArray} {gg : Nat} {va : Value} (h : Fa w cv xs gg va) (hb : Below w.heap.size w w') : Fa w' cv xs gg va :=
  ⟨h.vw.below hb, fun k hk => by obtain ⟨a, b, c⟩ := h.far k hk; exact ⟨Nat.lt_of_lt_of_le a hb.size, b, c⟩⟩

/-- What a walk along a path comes to. -/
def resW (T : Tr) (s : ByteArray) (last : Bool) : Res := if spE s = 0 then walkR (stepF T) last 1000 (spN s) 0 0 else ⟨0, [], spE s⟩

end Go.Proofs.YtmbdacdgbmpedaaDoor
