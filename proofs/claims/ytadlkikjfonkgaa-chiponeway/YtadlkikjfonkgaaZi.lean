/-
  SEAT Ytadlkikjfonkgaa: Fj.
-/
import Derived.Test.YtadlkikjfonkgaaZb
import Derived.ProofKit
import Derived.OpenShut
import Derived.ChangeOld
import Derived.SizedLaws
import Derived.Deep.Grids
import Derived.Deep.SlicePairs
namespace Go.Proofs.Ytadlkikjfonkgaa
open Go.ChangeShapes Go.WideShapes Go.ChangeAt Go.RowKit Go.Joins Go.Deep Go.ChangeMaps
set_option linter.unusedVariables false

theorem wts_all {H : Type} {P : Program} {e : TypeId} : ∀ {l : List (DataW H)} {d : DataW H}, d ∈ l → ∀ n ∈ d.weights P e, n ∈ DataW.weightsAll P e l
  | [], _, h, _, _ => by cases h
  | x :: r, d, h, n, hn => by
    simp only [DataW.weightsAll, List.mem_append]
    rcases List.mem_cons.1 h with rfl | h
    · exact Or.inl hn
    · exact Or.inr (wts_all h n hn)
/-- No weight is too great. -/
def Wts {H : Type} (d : DataW H) (t : TypeId) : Prop := ∀ n ∈ d.weights Try.prog t, n ≤ reachBytes
theorem Wts.slice {H : Type} {t e : TypeId} {elems spare : List (DataW H)} (hu : Try.prog.underlying t = some (.slice e)) (h : Wts (.slice elems spare) t) : (elems.length + spare.length) * Try.prog.bytesOf e ≤ reachBytes ∧ ∀ d ∈ elems, Wts d e := by
  refine ⟨h _ (by simp [DataW.weights, hu]), fun d hd n hn => h n ?_⟩
  simp only [DataW.weights, hu, List.mem_cons, List.mem_append]
  exact Or.inr (Or.inl (wts_all hd n hn))
theorem Wts.part {H : Type} {t u : TypeId} {fs : Array Field} {parts : List (DataW H)} {d : DataW H} {j : Nat} (hu : Try.prog.underlying t = some (.struct fs)) (h : Wts (.agg parts) t) (ht : (fs.toList.map (·.type))[j]? = some u) (hd : parts[j]? = some d) : Wts d u := fun n hn => h n (by
  simp only [DataW.weights, hu]
  exact DataW.weights_mem_each ht hd n hn)
theorem wts_each {H : Type} {ts : List TypeId} {ds : List (DataW H)} (h : (DataW.weightsEach Try.prog ts ds).all (· ≤ reachBytes) = true) {j : Nat} {t : TypeId} {d : DataW H} (ht : ts[j]? = some t) (hd : ds[j]? = some d) : Wts d t := fun n hn => by
  have := List.all_eq_true.1 h _ (DataW.weights_mem_each ht hd n hn)
  simpa using this
theorem c3 : Try.prog.cellsOf 3 = 1 := by kernel_rfl
theorem c4 : Try.prog.cellsOf 4 = 1 := by kernel_rfl
theorem c5 : Try.prog.cellsOf 5 = 1 := by kernel_rfl
theorem c24 : Try.prog.cellsOf 24 = 1 := by kernel_rfl
theorem c41 : Try.prog.cellsOf 41 = 2 := by kernel_rfl
theorem c36 : Try.prog.cellsOf 36 = 2 := by kernel_rfl
theorem c58 : Try.prog.cellsOf 58 = 4 := by kernel_rfl
theorem c56 : Try.prog.cellsOf 56 = 7 := by kernel_rfl
theorem by5 : Try.prog.bytesOf 5 = 1 := by kernel_rfl
theorem by58 : Try.prog.bytesOf 58 = 48 := by kernel_rfl
theorem by56 : Try.prog.bytesOf 56 = 88 := by kernel_rfl

section
variable {H : Type} {enc : TypeId × Value → H} {W : World}
theorem open_bytesW {fuel : Nat} {cs : List Value} {y : DataW H × List MemPlace} (h : DataW.trod enc Try.prog W 0 (fun _ => true) true fuel 24 cs = some y) (hw : Wts y.1 24) : ∃ a l c zs, cs = [.slice a l c] ∧ Reads W a l zs ∧ l ≤ 140737488351232 ∧ l ≤ c := by
  rcases open_ints Try.underlying24 Try.underlying5 c5 h with ⟨hcs, _⟩ | ⟨x, l, c, zs, hcs, _, hl, hm, hz, hx, hcell, hwz⟩
  · exact ⟨none, 0, 0, [], hcs, ⟨rfl, (fun _ h => by cases h), fun _ => rfl, fun _ h => by cases h⟩, by omega, by omega⟩
  · have hz' : zs.length = c := by simpa using hz
    have hd := congrArg Prod.fst hx
    simp only at hd
    rw [hd] at hw
    have h1 := (hw.slice Try.underlying24).1
    rw [by5] at h1
    simp only [lits, List.length_map, List.length_take, List.length_drop, reachBytes] at h1
    refine ⟨some x, l, c, zs.take l, hcs, ⟨by simp; omega, fun n hn => bounds_u8 (hwz n (List.mem_of_mem_take hn)), (fun h => by cases h), fun y hy i hi => ?_⟩, by omega, hl⟩
    cases hy
    rw [hcell i (by omega)]
    simp [List.getD, hi]
set_option maxRecDepth 100000 in
theorem open_fault {fuel : Nat} {cs : List Value} {y : DataW H × List MemPlace} (hlen : cs.length = 4) (h : DataW.trod enc Try.prog W 0 (fun _ => true) true fuel 58 cs = some y) (hw : Wts y.1 58) : ∃ c : Fc, cs = c.row ∧ FcOk W c := by
  obtain ⟨y0, y1, y2, y3, k, hy, hcl, g0, g1, g2, g3⟩ := trod_struct4 Try.underlying58 h
  rw [hy] at hw
  have w2 : Wts y2.1 24 := hw.part (j := 2) Try.underlying58 rfl rfl
  match cs, hlen with
  | [v0, v1, v2, v3], _ =>
    obtain ⟨z0, e0, _, wf0⟩ := DataW.trod_int Try.underlying3 g0
    obtain ⟨z1, e1, _, wf1⟩ := DataW.trod_int Try.underlying3 g1
    obtain ⟨a, l, c, zs, e2, rd, hl, hc⟩ := open_bytesW g2 w2
    obtain ⟨z3, e3, _, wf3⟩ := DataW.trod_int Try.underlying5 g3
    simp [c3, c24, c5] at e0 e1 e2 e3
    subst e0 e1 e2 e3
    exact ⟨⟨z0, z1, a, l, c, z3, zs⟩, rfl, ⟨rd, hl, hc, bounds_u8 wf3, bounds_i64 wf0, bounds_i64 wf1⟩⟩
set_option maxRecDepth 100000 in
theorem open_op {fuel : Nat} {cs : List Value} {y : DataW H × List MemPlace} (hlen : cs.length = 7) (h : DataW.trod enc Try.prog W 0 (fun _ => true) true fuel 56 cs = some y) (hw : Wts y.1 56) : ∃ x : Ox, cs = [x.cell 0, x.cell 1, x.cell 2, x.cell 3, x.cell 4, x.cell 5, x.cell 6] ∧ OxOk W x := by
  obtain ⟨xs, n, _, hy, hcl, hxl, hf⟩ := DataW.trod_struct Try.underlying56 h
  match xs, hxl with
  | [y0, y1, y2, y3, y4], _ =>
    rw [hy] at hw
    have w4 : Wts y4.1 36 := hw.part (j := 4) Try.underlying56 rfl rfl
    match cs, hlen with
    | [v0, v1, v2, v3, v4, v5, v6], _ =>
      have g0 := hf 0 _ rfl
      have g1 := hf 1 _ rfl
      have g2 := hf 2 _ rfl
      have g3 := hf 3 _ rfl
      have g4 := hf 4 _ rfl
      obtain ⟨z0, e0, _, wf0⟩ := DataW.trod_int Try.underlying3 g0
      obtain ⟨p0, p1, k1, _, _, q0, q1⟩ := trod_struct2 Try.underlying41 g1
      obtain ⟨z1, e1, _, wf1⟩ := DataW.trod_int Try.underlying3 q0
      obtain ⟨z2, e2, _, wf2⟩ := DataW.trod_int Try.underlying3 q1
      obtain ⟨z3, e3, _, wf3⟩ := DataW.trod_int Try.underlying3 g2
      obtain ⟨b4, e4, _⟩ := DataW.trod_bool Try.underlying4 g3
      obtain ⟨r0, r1, k2, hr, _, s0, s1⟩ := trod_struct2 Try.underlying36 g4
      rw [hr] at w4
      have wa : Wts r0.1 24 := w4.part (j := 0) Try.underlying36 rfl rfl
      have wb : Wts r1.1 24 := w4.part (j := 1) Try.underlying36 rfl rfl
      obtain ⟨a5, l5, c5', zs5, e5, rd5, hl5, hc5⟩ := open_bytesW s0 wa
      obtain ⟨a6, l6, c6, zs6, e6, rd6, hl6, hc6⟩ := open_bytesW s1 wb
      simp [c3, c4, c24, c41, c36] at e0 e1 e2 e3 e4 e5 e6
      subst e0 e1 e2 e3 e4 e5 e6
      exact ⟨⟨⟨z0, z1, z2, z3, b4, zs5, zs6⟩, a5, l5, c5', a6, l6, c6⟩, rfl, ⟨rd5, rd6, hl5, hl6, (bounds_i64 wf3).2⟩⟩
set_option maxRecDepth 100000 in
theorem open_faults {fuel : Nat} {v : Value} {y : DataW H × List MemPlace} (h : DataW.trod enc Try.prog W 0 (fun _ => true) true fuel 49 [v] = some y) (hw : Wts y.1 49) : ∃ a l c fs, v = .slice a l c ∧ ReadsF W a l fs ∧ l ≤ 140737488351232 := by
  rcases open_slice Try.underlying49 h with ⟨hcs, _⟩ | ⟨x, l, c, m, n, D, Pl, hcs, _, hl, hm, hmm, hx, hcell⟩
  · injection hcs with hcs
    exact ⟨none, 0, 0, [], hcs, ⟨rfl, (fun _ h => by cases h), fun _ => rfl, fun _ h => by cases h⟩, by omega⟩
  · injection hcs with hcs
    have hd := congrArg Prod.fst hx
    simp only at hd
    rw [hd] at hw
    obtain ⟨h1, h2⟩ := hw.slice Try.underlying49
    rw [by58] at h1
    simp only [List.length_map, List.length_range, reachBytes] at h1
    have each : ∀ i, i < l → ∃ q : Fc, FcOk W q ∧ ∀ j, j < 4 → W.cell? (x.add (i * 4 + j)) = some (q.cell j) := by
      intro i hi
      obtain ⟨cs', k1, k2⟩ := hcell i (by rw [hmm]; simp; omega)
      rw [c58] at k1
      obtain ⟨_, hlen, hc⟩ := World.cells?_some k1
      obtain ⟨q, hq, hok⟩ := open_fault hlen k2 (h2 _ (List.mem_map.2 ⟨i, List.mem_range.2 hi, rfl⟩))
      refine ⟨q, hok, fun j hj => ?_⟩
      have h9 := hc j hj
      rw [Deep.add_add] at h9
      rw [h9, hq]
      rcases j with _ | _ | _ | _ | j
      · rfl
      · rfl
      · rfl
      · rfl
      · omega
    have : Inhabited Fc := ⟨Fc.zero⟩
    obtain ⟨q, hq⟩ := Deep.choose_lt each
    refine ⟨some x, l, c, (List.range l).map q, hcs, ⟨by simp, fun e he => ?_, (fun h => by cases h), fun y hy i hi j hj => ?_⟩, by omega⟩
    · obtain ⟨i, hi, rfl⟩ := List.mem_map.1 he
      exact (hq i (List.mem_range.1 hi)).1
    · cases hy
      rw [(hq i hi).2 j hj]
      simp [List.getD_eq_getElem?_getD, hi]
set_option maxRecDepth 100000 in
theorem open_opsW {fuel : Nat} {v : Value} {y : DataW H × List MemPlace} (h : DataW.trod enc Try.prog W 0 (fun _ => true) true fuel 50 [v] = some y) (hw : Wts y.1 50) : ∃ a l c xs, v = .slice a l c ∧ ReadsO W a l xs ∧ l ≤ 1600000000000 := by
  rcases open_slice Try.underlying50 h with ⟨hcs, _⟩ | ⟨x, l, c, m, n, D, Pl, hcs, _, hl, hm, hmm, hx, hcell⟩
  · injection hcs with hcs
    exact ⟨none, 0, 0, [], hcs, ⟨rfl, (fun _ h => by cases h), fun _ => rfl, fun _ h => by cases h⟩, by omega⟩
  · injection hcs with hcs
    have hd := congrArg Prod.fst hx
    simp only at hd
    rw [hd] at hw
    obtain ⟨h1, h2⟩ := hw.slice Try.underlying50
    rw [by56] at h1
    simp only [List.length_map, List.length_range, reachBytes] at h1
    have each : ∀ i, i < l → ∃ q : Ox, OxOk W q ∧ ∀ j, j < 7 → W.cell? (x.add (i * 7 + j)) = some (q.cell j) := by
      intro i hi
      obtain ⟨cs', k1, k2⟩ := hcell i (by rw [hmm]; simp; omega)
      rw [c56] at k1
      obtain ⟨_, hlen, hc⟩ := World.cells?_some k1
      obtain ⟨q, hq, hok⟩ := open_op hlen k2 (h2 _ (List.mem_map.2 ⟨i, List.mem_range.2 hi, rfl⟩))
      refine ⟨q, hok, fun j hj => ?_⟩
      have h9 := hc j hj
      rw [Deep.add_add] at h9
      rw [h9, hq]
      rcases j with _ | _ | _ | _ | _ | _ | _ | j
      · rfl
      · rfl
      · rfl
      · rfl
      · rfl
      · rfl
      · rfl
      · omega
    have : Inhabited Ox := ⟨Ox.zero⟩
    obtain ⟨q, hq⟩ := Deep.choose_lt each
    refine ⟨some x, l, c, (List.range l).map q, hcs, ⟨by simp, fun e he => ?_, (fun h => by cases h), fun y hy i hi j hj => ?_⟩, by omega⟩
    · obtain ⟨i, hi, rfl⟩ := List.mem_map.1 he
      exact (hq i (List.mem_range.1 hi)).1
    · cases hy
      rw [(hq i hi).2 j hj]
      simp [List.getD_eq_getElem?_getD, hi]
theorem open_intsW {fuel : Nat} {v : Value} {y : DataW H × List MemPlace} (h : DataW.trod enc Try.prog W 0 (fun _ => true) true fuel 48 [v] = some y) : ∃ a l c zs, v = .slice a l c ∧ ReadsI W a l zs ∧ l ≤ 9223372036854775807 := by
  rcases open_ints Try.underlying48 Try.underlying3 c3 h with ⟨hcs, _⟩ | ⟨x, l, c, zs, hcs, _, hl, hm, hz, hx, hcell, hwz⟩
  · injection hcs with hcs
    exact ⟨none, 0, 0, [], hcs, ⟨rfl, (fun _ h => by cases h), fun _ => rfl, fun _ h => by cases h⟩, by omega⟩
  · injection hcs with hcs
    have hz' : zs.length = c := by simpa using hz
    refine ⟨some x, l, c, zs.take l, hcs, ⟨by simp; omega, fun n hn => bounds_i64 (hwz n (List.mem_of_mem_take hn)), (fun h => by cases h), fun y hy i hi => ?_⟩, by simp [maxLen] at hm; omega⟩
    cases hy
    rw [hcell i (by omega)]
    simp [List.getD, hi]
end
end Go.Proofs.Ytadlkikjfonkgaa
