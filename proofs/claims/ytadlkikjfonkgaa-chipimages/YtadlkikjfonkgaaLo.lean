/-
  SEAT Ytadlkikjfonkgaa: Load: what it makes.
-/
import Derived.Test.YtadlkikjfonkgaaIa
import Derived.Test.YtadlkikjfonkgaaLu
namespace Go.Proofs.Ytadlkikjfonkgaa
open Go.RowKit Go.Conc
set_option linter.unusedVariables false

theorem CAt.setP1 {w : World} {p : Nat} {F G : Nat → Prop} {C : Ch} {x : Bx} {bs : List Bc} {fe : List Fe} (h : CAt w p F C x bs fe) {i k : Nat} {b : Bc} {q q' : Pc} (hi : bs[i]? = some b) (hk : b.ps[k]? = some q) (hh : q'.h = q.h) (hF : ∀ k, F k → G k) (hG : ∀ k, G k → k < w.heap.size) (hq' : PcOk w G (pgB C.S) q') :
    CAt (w.setCell ⟨b.g, k * 2, none⟩ (.slice q'.a q'.n q'.c)) p G { C with bl := C.bl.set i { b.v with ps := b.v.ps.set k q'.v } } x (bs.set i { b with ps := b.ps.set k q' }) fe := by
  obtain ⟨h1, h2⟩ := h.setP (w0 := w) hi hk hF hG hq'
  have hb := h.bok b (List.mem_of_getElem? hi)
  have r1 := heap_setCell_same w b.g (k * 2) _ 108 (.slice q'.a q'.n q'.c) hb.row
  have r2 := heap_setCell_same _ b.g (k * 2 + 1) _ 108 (.bool q'.h) r1
  have s1 := flat_set Pc.cells 2 Pc.cells_len 0 (by omega) (.slice q'.a q'.n q'.c) { q with a := q'.a, n := q'.n, c := q'.c } b.ps k q hk rfl
  have hk1 : (b.ps.set k { q with a := q'.a, n := q'.n, c := q'.c })[k]? = some { q with a := q'.a, n := q'.n, c := q'.c } := by
    rw [List.getElem?_set_self (List.getElem?_eq_some_iff.1 hk).1]
  have s2 := flat_set Pc.cells 2 Pc.cells_len 1 (by omega) (.bool q'.h) { q with a := q'.a, n := q'.n, c := q'.c } (b.ps.set k { q with a := q'.a, n := q'.n, c := q'.c }) k _ hk1 (by rw [hh]; rfl)
  rw [List.set_set] at s2
  have e1 : ((b.ps.flatMap Pc.cells).toArray.setIfInBounds (k * 2) (.slice q'.a q'.n q'.c)).setIfInBounds (k * 2 + 1) (.bool q'.h) = (b.ps.flatMap Pc.cells).toArray.setIfInBounds (k * 2) (.slice q'.a q'.n q'.c) := by
    simp only [List.setIfInBounds_toArray]
    rw [Nat.add_zero] at s1
    rw [s1, s2]
  rw [e1, ← r1] at r2
  refine h1.keep (fun j hj => ?_) (fun _ h => h) (fun j hj => Nat.lt_of_lt_of_le (hG j hj) (by simp))
  by_cases hjb : j = b.g
  · rw [hjb, r2]
  · exact (heap_setCell_other _ ⟨b.g, k * 2 + 1, none⟩ j _ hjb).symm
/-- How far a chip is loaded: the marks of m blocks, t pages. -/
def ldP (L P : Nat) (zs : List Int) (t j k : Nat) : Pg := if j * P + k < t then ⟨(zs.drop ((j * P + k) * L)).take L, false⟩ else ⟨List.replicate L 255, false⟩
def ldB (L P : Nat) (zs : List Int) (ms : List Bool) (m t j : Nat) : Bl := ⟨if j < m then ms.getD j false else false, false, 0, (List.range P).map (ldP L P zs t j)⟩
def ldL (L B P : Nat) (zs : List Int) (ms : List Bool) (m t : Nat) : List Bl := (List.range B).map (ldB L P zs ms m t)
def loadC (B P S : Nat) (zs : List Int) (ms : List Bool) (q : List Ft) : Ch := { emptyC B P S q with bl := ldL (pgB S) B P zs ms B (B * P) }
theorem ldL_0 (L B P : Nat) (zs : List Int) (ms : List Bool) : ldL L B P zs ms 0 0 = List.replicate B (bl0 P L) := by
  refine List.ext_getElem? (fun i => ?_)
  unfold ldL
  rw [List.getElem?_map, List.getElem?_replicate]
  by_cases h : i < B
  · rw [List.getElem?_range h, if_pos h]
    simp only [Option.map_some, ldB, bl0, Nat.not_lt_zero, if_false]
    congr 2
    refine List.ext_getElem? (fun k => ?_)
    rw [List.getElem?_map, List.getElem?_replicate]
    by_cases h2 : k < P
    · rw [List.getElem?_range h2, if_pos h2]; simp [ldP]
    · rw [if_neg h2, List.getElem?_eq_none (by simp; omega)]; rfl
  · rw [if_neg h, List.getElem?_eq_none (by simp; omega)]; rfl
theorem ldL_get {L B P : Nat} {zs : List Int} {ms : List Bool} {m t i : Nat} (h : i < B) : (ldL L B P zs ms m t)[i]? = some (ldB L P zs ms m t i) := by
  unfold ldL
  rw [List.getElem?_map, List.getElem?_range h]
  rfl
theorem ldL_mark {L B P : Nat} {zs : List Int} {ms : List Bool} {m t : Nat} (h : m < B) : (ldL L B P zs ms m t).set m { ldB L P zs ms m t m with m := ms.getD m false } = ldL L B P zs ms (m + 1) t := by
  refine List.ext_getElem? (fun i => ?_)
  by_cases hi : i < B
  · rw [ldL_get hi]
    by_cases e : m = i
    · subst e
      rw [List.getElem?_set_self (by simp [ldL]; exact h)]
      simp [ldB]
    · rw [List.getElem?_set_ne e, ldL_get hi]
      have h3 : (i < m) = (i < m + 1) := by apply propext; omega
      simp only [ldB, h3]
  · rw [List.getElem?_eq_none (by simp [ldL]; omega), List.getElem?_eq_none (by simp [ldL]; omega)]
theorem ldL_page {L B P : Nat} {zs : List Int} {ms : List Bool} {m i k : Nat} (h : i < B) (hk : k < P) : (ldL L B P zs ms m (i * P + k)).set i { ldB L P zs ms m (i * P + k) i with ps := (ldB L P zs ms m (i * P + k) i).ps.set k ⟨(zs.drop ((i * P + k) * L)).take L, false⟩ } = ldL L B P zs ms m (i * P + k + 1) := by
  refine List.ext_getElem? (fun j => ?_)
  by_cases hj : j < B
  · rw [ldL_get hj]
    by_cases e : i = j
    · subst e
      rw [List.getElem?_set_self (by simp [ldL]; exact h)]
      simp only [ldB]
      congr 2
      refine List.ext_getElem? (fun n => ?_)
      by_cases hn : n < P
      · rw [List.getElem?_map, List.getElem?_range hn]
        by_cases e2 : k = n
        · subst e2
          rw [List.getElem?_set_self (by simp; exact hk)]
          simp [ldP]
        · rw [List.getElem?_set_ne e2, List.getElem?_map, List.getElem?_range hn]
          have h3 : (i * P + n < i * P + k) = (i * P + n < i * P + k + 1) := by apply propext; omega
          simp only [Option.map_some, ldP, h3]
      · rw [List.getElem?_eq_none (by simp; omega), List.getElem?_eq_none (by simp; omega)]
    · rw [List.getElem?_set_ne e, ldL_get hj]
      simp only [ldB]
      congr 2
      refine List.map_congr_left (fun n hn => ?_)
      have hn' : n < P := List.mem_range.1 hn
      have h3 : (j * P + n < i * P + k) = (j * P + n < i * P + k + 1) := by
        apply propext
        rcases Nat.lt_or_gt_of_ne e with h4 | h4
        · have : i * P + P ≤ j * P := by rw [← Nat.succ_mul]; exact Nat.mul_le_mul_right _ h4
          omega
        · have : j * P + P ≤ i * P := by rw [← Nat.succ_mul]; exact Nat.mul_le_mul_right _ h4
          omega
      simp only [ldP, h3]
  · rw [List.getElem?_eq_none (by simp [ldL]; omega), List.getElem?_eq_none (by simp [ldL]; omega)]
end Go.Proofs.Ytadlkikjfonkgaa
