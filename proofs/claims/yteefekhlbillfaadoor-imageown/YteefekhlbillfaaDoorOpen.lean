/-
  SEAT YteefekhlbillfaaDoor: arguments, opened: an image, a place.
-/
import Derived.Test.YteefekhlbillfaaDoorE
import Derived.ProofKit
import Derived.OpenShut
import Derived.ChangeOld
import Derived.SizedLaws
import Derived.Lib.SmallJoins
import Derived.Deep.Strs
import Derived.Deep.Grids
namespace Go.Proofs.YteefekhlbillfaaDoor
open Go.ChangeShapes Go.WideShapes Go.ChangeAt Go.RowKit Go.Joins
set_option linter.unusedVariables false

theorem own : ownKnob Tryd.prog.godebug = none := by kernel_rfl
theorem laidOut : laidOutB Tryd.prog = true := by kernel_rfl
theorem cells30 : Tryd.prog.cellsOf 30 = 5 := by kernel_rfl
theorem cells27 : Tryd.prog.cellsOf 27 = 3 := by kernel_rfl
theorem cells22 : Tryd.prog.cellsOf 22 = 1 := by kernel_rfl
theorem cells28 : Tryd.prog.cellsOf 28 = 1 := by kernel_rfl
theorem cells3 : Tryd.prog.cellsOf 3 = 1 := by kernel_rfl
theorem cells40 : Tryd.prog.cellsOf 40 = 2 := by kernel_rfl
theorem bytes5 : Tryd.prog.bytesOf 5 = 1 := by kernel_rfl
theorem bytes4 : Tryd.prog.bytesOf 4 = 1 := by kernel_rfl

theorem array5 {α : Type} {cs : Array α} (h : cs.size = 5) : ∃ c0 c1 c2 c3 c4, cs = #[c0, c1, c2, c3, c4] := by
  obtain ⟨l⟩ := cs
  match l, h with
  | [c0, c1, c2, c3, c4], _ => exact ⟨c0, c1, c2, c3, c4, rfl⟩

section
variable {H : Type} {enc : TypeId × Value → H} {W : World}

theorem open_b8 {n : Nat} {v : Value} {y : DataW H × List MemPlace} (h : DataW.trod enc Tryd.prog W 0 (fun _ => true) true n 22 [v] = some y) (hw : ∀ k ∈ y.1.weights Tryd.prog 22, k ≤ reachBytes) :
    ∃ a len c zs, v = .slice a len c ∧ Reads W a len zs ∧ len ≤ 140737488351232 ∧ len ≤ c ∧ c ≤ 140737488351232 := by
  rcases open_ints Tryd.underlying22 Tryd.underlying5 (by kernel_rfl) h with ⟨hcs, _⟩ | ⟨x, l, c, zs, hcs, _, hl, hm, hz, hx, hcell, hwz⟩
  · injection hcs with hcs
    subst hcs
    exact ⟨none, 0, 0, [], rfl, ⟨rfl, by simp, fun _ => rfl, fun _ h => by cases h⟩, by omega, by omega, by omega⟩
  · injection hcs with hcs
    subst hcs
    have hz' : zs.length = c := by simpa using hz
    have hw1 := hw ((zs.length) * Tryd.prog.bytesOf 5) (by
      rw [hx]
      simp only [DataW.weights, Tryd.underlying22, lits, List.length_map, List.length_take, List.length_drop, List.mem_cons]
      left
      congr 1
      omega)
    rw [bytes5] at hw1
    simp only [reachBytes] at hw1
    refine ⟨some x, l, c, zs.take l, rfl, ⟨by simp; omega, fun n hn => bounds_u8 (hwz n (List.mem_of_mem_take hn)), (fun h => by cases h), fun y hy i hi => ?_⟩, by omega, by omega, by omega⟩
    cases hy
    rw [hcell i (by omega)]
    simp [List.getD, hi]

theorem open_bl {n : Nat} {v : Value} {y : DataW H × List MemPlace} (h : DataW.trod enc Tryd.prog W 0 (fun _ => true) true n 28 [v] = some y) (hw : ∀ k ∈ y.1.weights Tryd.prog 28, k ≤ reachBytes) :
    ∃ a len c bs, v = .slice a len c ∧ ReadsB W a len bs ∧ len ≤ 140737488351232 := by
  rcases Deep.open_bools Tryd.underlying28 Tryd.underlying4 (by kernel_rfl) h with ⟨hcs, hy⟩ | ⟨a, len, cap, Bf, hcs, hb, hl, hm, hx, hcell⟩
  · injection hcs with hcs
    subst hcs
    exact ⟨none, 0, 0, [], rfl, ⟨rfl, fun _ => rfl, fun _ h => by cases h⟩, by omega⟩
  · injection hcs with hcs
    subst hcs
    have hw1 := hw (cap * Tryd.prog.bytesOf 4) (by
      rw [hx]
      simp only [Deep.boolRow, DataW.weights, Tryd.underlying28, List.length_map, List.length_range, List.mem_cons]
      left
      congr 1
      omega)
    rw [bytes4] at hw1
    simp only [reachBytes] at hw1
    refine ⟨some a, len, cap, (List.range len).map Bf, rfl, ⟨by simp, (fun h => by cases h), fun z hz i hi => ?_⟩, by omega⟩
    cases hz
    rw [hcell i (by omega)]
    simp [List.getD_eq_getElem?_getD, hi]

set_option maxRecDepth 100000 in
theorem open_img {base : Nat} {v : Value} {d : DataW H} {p : List MemPlace} (hv : Value.okWide Tryd.prog W .any base 30 v) (h : DataW.Trod enc Tryd.prog W 0 (fun _ => true) true 30 v d p) (hw : ∀ n ∈ d.weights Tryd.prog 30, n ≤ reachBytes) :
    ∃ b q s a n c a' m c' zs bs, v = .agg #[.int .i64 b, .int .i64 q, .int .i64 s, .slice a n c, .slice a' m c'] ∧ n ≤ 140737488351232 ∧ m ≤ 140737488351232 ∧ Reads W a n zs ∧ ReadsB W a' m bs ∧ n ≤ c ∧ c ≤ 140737488351232 := by
  obtain ⟨cs, rfl, hsz⟩ := okWide_struct Tryd.underlying30 hv
  obtain ⟨v0, v1, v2, v3, v4, rfl⟩ := array5 (hsz.trans cells30)
  obtain ⟨fuel, hf⟩ := h
  obtain ⟨y0, y1, y2, n, hx, _, h0, h1, h2⟩ := Deep.trod_struct3 Tryd.underlying30 hf
  simp only [Value.cells, cells27, cells22, cells28, List.drop_zero, List.drop_succ_cons, List.take_succ_cons, List.take_zero] at h0 h1 h2
  obtain ⟨z0, z1, z2, k, hx0, _, i0, i1, i2⟩ := Deep.trod_struct3 Tryd.underlying27 h0
  simp only [cells3, List.drop_zero, List.drop_succ_cons, List.take_succ_cons, List.take_zero] at i0 i1 i2
  obtain ⟨b, e0, _, _⟩ := DataW.trod_int Tryd.underlying3 i0
  obtain ⟨q, e1, _, _⟩ := DataW.trod_int Tryd.underlying3 i1
  obtain ⟨s, e2, _, _⟩ := DataW.trod_int Tryd.underlying3 i2
  simp at e0 e1 e2
  subst e0 e1 e2
  have hd := (Prod.mk.inj hx).1
  obtain ⟨a, l, c, zs, rfl, r1, s1, s3, s4⟩ := open_b8 h1 (fun k hk => hw k (by
    rw [hd]
    simp only [DataW.weights, Tryd.underlying30]
    exact DataW.weights_mem_each (j := 1) rfl rfl _ hk))
  obtain ⟨a', m, c', bs, rfl, r2, s2⟩ := open_bl h2 (fun k hk => hw k (by
    rw [hd]
    simp only [DataW.weights, Tryd.underlying30]
    exact DataW.weights_mem_each (j := 2) rfl rfl _ hk))
  exact ⟨b, q, s, a, l, c, a', m, c', zs, bs, rfl, s1, s2, r1, r2, s3, s4⟩
end
end Go.Proofs.YteefekhlbillfaaDoor
