/-
  SEAT YteefekhlbillfaaDoor: what stands through the rounds of Pack.
-/
import Derived.Test.YteefekhlbillfaaDoorNg
namespace Go.Proofs.YteefekhlbillfaaDoor
open Go.RowKit
set_option linter.unusedVariables false

theorem packS_snoc (C : Nat) (P : List (List Int)) (g : List Int) : ∀ (st : St) (ah : List Int), packS C st ah (P ++ [g]) = pageS C (packS C st ah P) (P.getLast?.getD ah) g := by
  induction P with
  | nil => intro st ah; rfl
  | cons x P ih =>
    intro st ah
    show packS C (pageS C st ah x) x (P ++ [g]) = pageS C (packS C (pageS C st ah x) x P) _ g
    rw [ih]
    congr 1
    rw [List.getLast?_cons]
    rfl

theorem runS_bound (st : St) (k : Nat) (h2 : 2 ≤ st.laid.length) (hc : st.count ≤ 65535) : st.laid.length ≤ (runS st k).laid.length ∧ (runS st k).laid.length ≤ st.laid.length + 3 ∧ (runS st k).count ≤ 65535 := by
  unfold runS
  split
  · next h =>
    simp [le2]
  · next h =>
    simp [le2]
    omega

theorem pageS_bound (C L : Nat) (st : St) (ah g : List Int) (hg : g.length = L) (hC : C ≤ L) (h2 : 2 ≤ st.laid.length) (hc : st.count ≤ 65535) : st.laid.length ≤ (pageS C st ah g).laid.length ∧ (pageS C st ah g).laid.length ≤ st.laid.length + (3 + L) ∧ (pageS C st ah g).count ≤ 65535 := by
  unfold pageS
  split
  · have := runS_bound st 0 h2 hc; omega
  · split
    · have := runS_bound st 2 h2 hc; omega
    · have hw := wrN_le (g.take C)
      simp at hw
      simp [toldS, enc, le2]
      omega

theorem packS_bound (C L : Nat) (P : List (List Int)) : ∀ (st : St) (ah : List Int), (∀ g ∈ P, g.length = L) → C ≤ L → 2 ≤ st.laid.length → st.count ≤ 65535 →
    st.laid.length ≤ (packS C st ah P).laid.length ∧ (packS C st ah P).laid.length ≤ st.laid.length + P.length * (3 + L) ∧ (packS C st ah P).count ≤ 65535 := by
  induction P with
  | nil => intro st ah _ _ _ hc; exact ⟨Nat.le_refl _, by simp [packS], hc⟩
  | cons g P ih =>
    intro st ah hg hC h2 hc
    obtain ⟨b1, b2, b3⟩ := pageS_bound C L st ah g (hg g (by simp)) hC h2 hc
    obtain ⟨i1, i2, i3⟩ := ih (pageS C st ah g) g (fun x hx => hg x (by simp [hx])) hC (by omega) b3
    refine ⟨?_, ?_, i3⟩
    · show st.laid.length ≤ (packS C (pageS C st ah g) g P).laid.length
      omega
    · show (packS C (pageS C st ah g) g P).laid.length ≤ _
      rw [List.length_cons, Nat.succ_mul]
      omega

theorem blk_own {β : Type} (i : Nat) (cs : Array Value) (t : TypeId) (f : Nat × Nat) : Go.Own (fun (_ : β) W => W.heap[i]? = some (.cells cs t f)) := by
  intro s X Y row hs hg hrow
  refine (hg.block i (Array.getElem?_eq_some_iff.1 hs).1 (fun e => ?_)).trans hs
  obtain ⟨o, ho, hc⟩ := hrow i e.symm
  rw [hs] at ho
  cases ho
  cases hc

theorem WrAt.kept {w w' : World} {B q : Nat} {st : St} {row : Option Nat} (h : WrAt w B q st) (hg : w.grownBy w' row) (hrow : ∀ r, row = some r → ∃ o : Obj, w.heap[r]? = some o ∧ o.isCells = false) : WrAt w' B q st := by
  obtain ⟨g, cap, hq, ho, hB, hr⟩ := h
  refine ⟨g, cap, ?_, ?_, hB, hr⟩
  · refine (hg.block q (Array.getElem?_eq_some_iff.1 hq).1 (fun e => ?_)).trans hq
    obtain ⟨o, h1, h2⟩ := hrow q e.symm
    rw [hq] at h1
    cases h1
    cases h2
  · refine World.ownsRow.kept ho hg (.inr fun e => ?_)
    obtain ⟨cur, hc⟩ := Own.blk ho
    obtain ⟨o, h1, h2⟩ := hrow g (by simpa [Value.ownBlock] using e.symm)
    rw [hc] at h1
    cases h1
    cases h2

theorem wrAt_own {β : Type} (B q : Nat) (f : β → St) : Go.Own (fun (s : β) W => WrAt W B q (f s)) := fun s X Y row hs hg hrow => hs.kept hg hrow

theorem Kw.others {B : Nat} {w w' : World} (h : Kw B w w') : KeepsOthers w w' := ⟨h.bel.size, fun k o hk hc => h.oth k o hk (fun cs f e => by rw [e] at hc; cases hc) (fun cs f e => by rw [e] at hc; cases hc)⟩

theorem Kw.blk {B : Nat} {w w' : World} (h : Kw B w w') {i : Nat} {cs : Array Value} {t : TypeId} {f : Nat × Nat} (hi : w.heap[i]? = some (.cells cs t f)) (h1 : t ≠ 82) (h2 : t ≠ 5) : w'.heap[i]? = some (.cells cs t f) :=
  h.oth i _ hi (fun cs' f' e => by cases e; exact h1 rfl) (fun cs' f' e => by cases e; exact h2 rfl)

/-- What lies below is read as it was. -/
theorem Reads.low {w w' : World} {a : Option Addr} {len B : Nat} {zs : List Int} (h : Reads w a len zs) (hlow : ∀ x, a = some x → x.block < B) (hk : Below B w w') : Reads w' a len zs := by
  obtain ⟨h1, h2, h3, h4⟩ := h
  refine ⟨h1, h2, h3, fun x hx i hi => ?_⟩
  rw [hk.cell (show (x.add i).block < B by rw [show (x.add i).block = x.block by unfold Addr.add; split <;> rfl]; exact hlow x hx)]
  exact h4 x hx i hi

/-- Page number k of the bytes. -/
def pgK (zs : List Int) (L k : Nat) : List Int := (zs.drop (k * L)).take L

theorem pgK_len {zs : List Int} {L N k : Nat} (hz : zs.length = N * L) (hk : k < N) : (pgK zs L k).length = L := by
  have := Nat.mul_le_mul_right L (show k + 1 ≤ N from hk)
  rw [Nat.succ_mul] at this
  simp [pgK, hz]
  omega

theorem Reads.page {w : World} {bk off n L N k : Nat} {zs : List Int} (h : Reads w (some ⟨bk, off, none⟩) n zs) (hn : n = N * L) (hk : k < N) (hL : 0 < L) : Reads w (some ⟨bk, off + k * L, none⟩) L (pgK zs L k) := by
  have h1 := Nat.mul_le_mul_right L (show k + 1 ≤ N from hk)
  rw [Nat.succ_mul] at h1
  obtain ⟨b', o', he, h2⟩ := h.part (k * L) (k * L + L) (by omega) (by omega) (by omega)
  cases he
  rw [show k * L + L - k * L = L by omega] at h2
  exact h2

theorem pages_chunks (zs : List Int) (L N : Nat) : (List.finRange N).map (fun k => pgK zs L k.val) = chunks L N zs := by
  unfold chunks
  apply List.ext_getElem
  · simp
  · intro i h1 h2
    simp [pgK]

theorem blk_ne {w : World} {i j : Nat} {cs cs' : Array Value} {t t' : TypeId} {f f' : Nat × Nat} (hi : w.heap[i]? = some (.cells cs t f)) (hj : w.heap[j]? = some (.cells cs' t' f')) (h : t ≠ t') : i ≠ j := by
  intro e
  rw [e, hj] at hi
  cases hi
  exact h rfl

theorem blk_other {w w' : World} {i j : Nat} {cs cs' : Array Value} {t t' : TypeId} {f f' : Nat × Nat} (hi : w.heap[i]? = some (.cells cs t f)) (hj : w.heap[j]? = some (.cells cs' t' f')) (h : t ≠ t') (hg : w.grownBy w' (some j)) : w'.heap[i]? = some (.cells cs t f) :=
  (hg.block i (Array.getElem?_eq_some_iff.1 hi).1 (fun e => blk_ne hi hj h (by cases e; rfl))).trans hi

theorem WrAt.other {w w' : World} {B q j : Nat} {st : St} {cs : Array Value} {t : TypeId} {f : Nat × Nat} (h : WrAt w B q st) (hj : w.heap[j]? = some (.cells cs t f)) (h1 : t ≠ 82) (h2 : t ≠ 5) (hg : w.grownBy w' (some j)) : WrAt w' B q st := by
  obtain ⟨g, cap, hq, ho, hB, hr⟩ := h
  obtain ⟨cur, hc⟩ := Own.blk ho
  exact ⟨g, cap, blk_other hq hj (Ne.symm h1) hg, Own.apart ho hg (blk_ne hc hj (Ne.symm h2)), hB, hr⟩

theorem blk1_set {w : World} {q : Nat} {a : Value} {t : TypeId} (h : w.heap[q]? = some (.cells #[a] t (0, 0))) (v : Value) : (w.setCell ⟨q, 0, none⟩ v).heap[q]? = some (.cells #[v] t (0, 0)) := Boxed.set v h

end Go.Proofs.YteefekhlbillfaaDoor
