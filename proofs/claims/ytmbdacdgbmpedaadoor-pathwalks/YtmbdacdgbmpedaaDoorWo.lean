/-
  SEAT YtmbdacdgbmpedaaDoor: a tree, as it comes in.
-/
import Derived.Test.YtmbdacdgbmpedaaDoorSt
import Derived.ProofKit
import Derived.SizedLaws
import Derived.Lib.SmallJoins
import Derived.Deep.Strs
import Derived.Deep.Matrix
import Derived.Deep.Grids
namespace Go.Proofs.YtmbdacdgbmpedaaDoor
open Go.ChangeShapes Go.WideShapes Go.ChangeAt Go.RowKit Go.Joins Go.Deep Go.ChangeMaps
set_option linter.unusedVariables false

theorem weights_all {H : Type} {P : Program} {e : TypeId} {d : DataW H} {n : Nat} : ∀ {ds : List (DataW H)}, d ∈ ds → n ∈ d.weights P e → n ∈ DataW.weightsAll P e ds
  | [], h, _ => by cases h
  | x :: r, h, hn => by
    simp only [DataW.weightsAll, List.mem_append]
    rcases List.mem_cons.1 h with rfl | h
    · exact Or.inl hn
    · exact Or.inr (weights_all h hn)

section
variable {H : Type} {enc : TypeId × Value → H} {W : World}

theorem rd_range (a : Addr) (len : Nat) (S : Nat → ByteArray) (h : ∀ i, i < len → W.cell? (a.add i) = some (.string (S i))) : RdS W (some a) len ((List.range len).map S) := by
  refine ⟨by simp, (fun h => by cases h), fun y hy j u hj => ?_⟩
  cases hy
  rw [List.getElem?_map] at hj
  rcases Nat.lt_or_ge j len with q | q
  · rw [List.getElem?_range q] at hj
    simp at hj
    rw [← hj]; exact h j q
  · rw [List.getElem?_eq_none (by simpa using q)] at hj; cases hj

theorem open_s {n : Nat} {v : Value} {y : DataW H × List MemPlace} (h : DataW.trod enc Tryd.prog W 0 (fun _ => true) true n 22 [v] = some y) :
    ∃ a len c xs, v = .slice a len c ∧ RdS W a len xs ∧ len ≤ 9223372036854775807 ∧ ∀ x ∈ xs, x.size ∈ y.1.weights Tryd.prog 22 := by
  rcases Deep.open_strs (show Tryd.prog.underlying 22 = some (.slice 9) by kernel_rfl) Tryd.underlying9 (by kernel_rfl) h with ⟨hcs, hy⟩ | ⟨a, len, cap, m, Sx, hcs, _, hl, hm, hmm, hx, hcell⟩
  · injection hcs with hcs
    subst hcs
    exact ⟨none, 0, 0, [], rfl, ⟨rfl, fun _ => rfl, fun _ h => by cases h⟩, by omega, fun _ h => by cases h⟩
  · injection hcs with hcs
    subst hcs
    simp only [if_true] at hmm
    refine ⟨some a, len, cap, _, rfl, rd_range a len Sx fun i hi => (hcell i (by omega)).1, by simp [maxLen] at hm; omega, fun x hx2 => ?_⟩
    obtain ⟨i, hi, rfl⟩ := List.mem_map.1 hx2
    rw [hx]
    simp only [DataW.weights, show Tryd.prog.underlying 22 = some (.slice 9) by kernel_rfl, List.mem_cons, List.mem_append]
    refine Or.inr (Or.inl (weights_all (List.mem_map.2 ⟨i, hi, rfl⟩) ?_))
    simp only [DataW.weights, List.mem_singleton]
    exact Lib.size_eq _

theorem open_ss {n : Nat} {v : Value} {y : DataW H × List MemPlace} (h : DataW.trod enc Tryd.prog W 0 (fun _ => true) true n 30 [v] = some y) :
    ∃ a len c xss, v = .slice a len c ∧ RdSS W a len xss ∧ len ≤ 9223372036854775807 := by
  rcases Deep.open_slice1 (show Tryd.prog.underlying 30 = some (.slice 22) by kernel_rfl) (by kernel_rfl) h with ⟨hcs, hy⟩ | ⟨a, len, cap, m, n, V, D, Pl, hcs, hb, hl, hm, hmm, hx, hcell⟩
  · injection hcs with hcs
    subst hcs
    exact ⟨none, 0, 0, [], rfl, ⟨rfl, fun _ => rfl, fun _ h => by cases h⟩, by omega⟩
  · injection hcs with hcs
    subst hcs
    simp only [if_true] at hmm
    have each : ∀ i, i < m → ∃ u : List ByteArray, ∃ b q c, W.cell? (a.add i) = some (.slice b q c) ∧ RdS W b q u ∧ q ≤ 9223372036854775807 := fun i hi => by
      obtain ⟨h1, h2⟩ := hcell i hi
      obtain ⟨b, q, c, xs, hv, rd, hq, _⟩ := open_s h2
      exact ⟨xs, b, q, c, by rw [h1, hv], rd, hq⟩
    obtain ⟨U, hU⟩ := choose_lt each
    refine ⟨some a, len, cap, (List.range len).map U, rfl, ⟨by simp, (fun h => by cases h), fun z hz j u hj => ?_⟩, by simp [maxLen] at hm; omega⟩
    cases hz
    rw [List.getElem?_map] at hj
    rcases Nat.lt_or_ge j len with q | q
    · rw [List.getElem?_range q] at hj
      simp at hj
      rw [← hj]; exact hU j (by omega)
    · rw [List.getElem?_eq_none (by simpa using q)] at hj; cases hj

theorem open_ii {n : Nat} {v : Value} {y : DataW H × List MemPlace} (h : DataW.trod enc Tryd.prog W 0 (fun _ => true) true n 32 [v] = some y) :
    ∃ a len c kss, v = .slice a len c ∧ RdII W a len kss ∧ len ≤ 9223372036854775807 := by
  rcases Deep.open_int_rows (show Tryd.prog.underlying 32 = some (.slice 68) by kernel_rfl) (show Tryd.prog.underlying 68 = some (.slice 3) by kernel_rfl) (show Tryd.prog.underlying 3 = some (.int .i64) by kernel_rfl) (by kernel_rfl) (by kernel_rfl) h with ⟨hcs, hy⟩ | ⟨a, len, cap, A, L, C, Z, hcs, hb, hl, hm, hx, hcell⟩
  · injection hcs with hcs
    subst hcs
    exact ⟨none, 0, 0, [], rfl, ⟨rfl, fun _ => rfl, fun _ h => by cases h⟩, by omega⟩
  · injection hcs with hcs
    subst hcs
    refine ⟨some a, len, cap, (List.range len).map fun r => (Z r).take (L r), rfl, ⟨by simp, (fun h => by cases h), fun z hz j u hj => ?_⟩, by simp [maxLen] at hm; omega⟩
    cases hz
    rw [List.getElem?_map] at hj
    rcases Nat.lt_or_ge j len with q | q
    · rw [List.getElem?_range q] at hj
      simp at hj
      obtain ⟨h1, h2, h3, h4, _, h6, h7⟩ := hcell j (by omega)
      refine ⟨A j, L j, C j, h1, ⟨by rw [← hj]; simp; omega, fun e => by have := h6 e; omega, fun z hz i k hk => ?_⟩, by simp [maxLen] at h3; omega⟩
      have hil : i < L j := by
        have := (List.getElem?_eq_some_iff.1 hk).1
        rw [← hj] at this; simp at this; omega
      have := (h7 z hz).2 i (by omega)
      rw [this]
      rw [← hj, List.getElem?_take, if_pos hil] at hk
      rw [List.getD_eq_getElem?_getD, hk]; rfl
    · rw [List.getElem?_eq_none (by simpa using q)] at hj; cases hj

theorem open_b {n : Nat} {v : Value} {y : DataW H × List MemPlace} (h : DataW.trod enc Tryd.prog W 0 (fun _ => true) true n 33 [v] = some y) :
    ∃ a len c bs, v = .slice a len c ∧ RdB W a len bs ∧ len ≤ 9223372036854775807 := by
  rcases Deep.open_bools (show Tryd.prog.underlying 33 = some (.slice 4) by kernel_rfl) Tryd.underlying4 (by kernel_rfl) h with ⟨hcs, hy⟩ | ⟨a, len, cap, Bf, hcs, hb, hl, hm, hx, hcell⟩
  · injection hcs with hcs
    subst hcs
    exact ⟨none, 0, 0, [], rfl, ⟨rfl, fun _ => rfl, fun _ h => by cases h⟩, by omega⟩
  · injection hcs with hcs
    subst hcs
    refine ⟨some a, len, cap, (List.range len).map Bf, rfl, ⟨by simp, (fun h => by cases h), fun z hz j u hj => ?_⟩, by simp [maxLen] at hm; omega⟩
    cases hz
    rw [List.getElem?_map] at hj
    rcases Nat.lt_or_ge j len with q | q
    · rw [List.getElem?_range q] at hj
      simp at hj
      rw [← hj]; exact hcell j (by omega)
    · rw [List.getElem?_eq_none (by simpa using q)] at hj; cases hj

set_option maxRecDepth 100000 in
theorem open_tr {base : Nat} {v : Value} {d : DataW H} {p : List MemPlace} (hv : Value.okWide Tryd.prog W .any base 35 v) (h : DataW.Trod enc Tryd.prog W 0 (fun _ => true) true 35 v d p) (hw : ∀ n ∈ d.weights Tryd.prog 35, n ≤ reachBytes) :
    ∃ a0 a1 a2 a3 n0 n1 n2 n3 c0 c1 c2 c3 T, v = .agg #[.slice a0 n0 c0, .slice a1 n1 c1, .slice a2 n2 c2, .slice a3 n3 c3] ∧ TrOn W a0 a1 a2 a3 n0 n1 n2 n3 T ∧ ∀ x ∈ T.lnk, x.size ≤ 9223372036854775000 := by
  obtain ⟨v0, v1, v2, v3, y0, y1, y2, y3, m, rfl, rfl, rfl, h0, h1, h2, h3⟩ := open_agg4 Tryd.underlying35 (by kernel_rfl) (by kernel_rfl) hv h
  obtain ⟨a0, n0, c0, xss, rfl, r0, b0⟩ := open_ss h0
  obtain ⟨a1, n1, c1, kss, rfl, r1, b1⟩ := open_ii h1
  obtain ⟨a2, n2, c2, xs, rfl, r2, b2, hx⟩ := open_s h2
  obtain ⟨a3, n3, c3, bs, rfl, r3, b3⟩ := open_b h3
  refine ⟨a0, a1, a2, a3, n0, n1, n2, n3, c0, c1, c2, c3, ⟨xss, kss, xs, bs⟩, rfl, ⟨r0, r1, r2, r3, b0, b1, b2, b3⟩, fun x hm => ?_⟩
  have := hw x.size (by
    simp only [DataW.weights, Tryd.underlying35]
    exact DataW.weights_mem_each (j := 2) rfl rfl _ (hx x hm))
  simp only [reachBytes] at this
  omega
end
end Go.Proofs.YtmbdacdgbmpedaaDoor
