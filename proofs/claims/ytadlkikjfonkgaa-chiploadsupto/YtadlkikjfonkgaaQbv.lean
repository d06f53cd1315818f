/-
  SEAT Ytadlkikjfonkgaa: Vi, Vo.
-/
import Derived.Test.YtadlkikjfonkgaaQx
import Derived.Test.YtadlkikjfonkgaaQbp
import Derived.JoinedCond
import Derived.ProofKit
import Derived.OpenShut
import Derived.ChangeOld
import Derived.Deep.Grids
import Derived.Deep.SlicePairs
import Derived.Lib.SmallJoins
import Derived.Deep.Strs
namespace Go.Proofs.Ytadlkikjfonkgaa
open Go.ChangeShapes Go.WideShapes Go.ChangeAt Go.RowKit Go.Joins Go.Deep Go.ChangeMaps
set_option linter.unusedVariables false
set_option maxRecDepth 100000
set_option maxHeartbeats 4000000
variable {fuel : Nat} {cs : List Value}
theorem some_bulk {H : Type} (d : DataW H) : 0 < Rows.uptoBulk d := by
 rcases d with l | _ | _ | _ | _ | _ | _ | _
 ·cases l <;> simp [Rows.uptoBulk]
 all_goals simp [Rows.uptoBulk]
theorem many_bulk {H : Type} : ∀ l : List (DataW H), l.length ≤ Rows.uptoBulkAll l
 | [] => Nat.zero_le _
 | d :: r => by
  have h1 := many_bulk r
  have h2 := some_bulk d
  simp only [Rows.uptoBulkAll, List.length_cons]
  omega
theorem mem_bulk {H : Type} : ∀ {l : List (DataW H)} {d : DataW H}, d ∈ l → Rows.uptoBulk d ≤ Rows.uptoBulkAll l
 | [], _, h => by cases h
 | x :: r, d, h => by
  simp only [Rows.uptoBulkAll]
  rcases List.mem_cons.1 h with rfl | h
  ·omega
  ·have := mem_bulk h
   omega
theorem bulk_slice {H : Type} {es sp : List (DataW H)} (h : Rows.uptoBulk (.slice es sp) ≤ 1048576) : es.length + sp.length ≤ 1048576 ∧ ∀ d ∈ es, Rows.uptoBulk d ≤ 1048576 := by
 have h1 := many_bulk es
 have h2 := many_bulk sp
 simp only [Rows.uptoBulk] at h
 exact ⟨by omega, fun d hd => by have := mem_bulk hd; omega⟩
theorem bulk_part {H : Type} {ps : List (DataW H)} (h : Rows.uptoBulk (.agg ps) ≤ 1048576) {d : DataW H} (hd : d ∈ ps) : Rows.uptoBulk d ≤ 1048576 := by
 simp only [Rows.uptoBulk] at h
 have := mem_bulk hd
 omega
theorem c3 : Try.prog.cellsOf 3 = 1 := by kernel_rfl
theorem c4 : Try.prog.cellsOf 4 = 1 := by kernel_rfl
theorem c5 : Try.prog.cellsOf 5 = 1 := by kernel_rfl
theorem c24 : Try.prog.cellsOf 24 = 1 := by kernel_rfl
theorem c25 : Try.prog.cellsOf 25 = 1 := by kernel_rfl
theorem c41 : Try.prog.cellsOf 41 = 2 := by kernel_rfl
theorem c36 : Try.prog.cellsOf 36 = 2 := by kernel_rfl
theorem c58 : Try.prog.cellsOf 58 = 4 := by kernel_rfl
theorem c56 : Try.prog.cellsOf 56 = 7 := by kernel_rfl
theorem c23 : Try.prog.cellsOf 23 = 3 := by kernel_rfl
theorem c27 : Try.prog.cellsOf 27 = 5 := by kernel_rfl
section
variable {H : Type} {enc : TypeId × Value → H} {W : World}
theorem open_bytesU {y : DataW H × List MemPlace} (h : DataW.trod enc Try.prog W 0 (fun _ => true) true fuel 24 cs = some y) (hw : Rows.uptoBulk y.1 ≤ 1048576) : ∃ a l c zs, cs = [.slice a l c] ∧ Reads W a l zs ∧ l ≤ 140737488351232 ∧ l ≤ c := by
 rcases open_ints Try.underlying24 Try.underlying5 c5 h with ⟨hcs, _⟩ | ⟨x, l, c, zs, hcs, _, hl, hm, hz, hx, hcell, hwz⟩
 ·exact ⟨none, 0, 0, [], hcs, ⟨rfl, (fun _ h => by cases h), fun _ => rfl, fun _ h => by cases h⟩, by omega, by omega⟩
 ·have hz' : zs.length = c := by simpa using hz
  have hd := congrArg Prod.fst hx
  simp only at hd
  rw [hd] at hw
  have h1 := (bulk_slice hw).1
  simp only [lits, List.length_map, List.length_take, List.length_drop] at h1
  refine ⟨some x, l, c, zs.take l, hcs, ⟨by simp; omega, fun n hn => bounds_u8 (hwz n (List.mem_of_mem_take hn)), (fun h => by cases h), fun y hy i hi => ?_⟩, by omega, hl⟩
  cases hy
  rw [hcell i (by omega)]
  simp [List.getD, hi]
theorem open_fault {y : DataW H × List MemPlace} (hlen : cs.length = 4) (h : DataW.trod enc Try.prog W 0 (fun _ => true) true fuel 58 cs = some y) (hw : Rows.uptoBulk y.1 ≤ 1048576) : ∃ c : Fc, cs = c.row ∧ FcOk W c := by
 obtain ⟨y0, y1, y2, y3, k, hy, hcl, g0, g1, g2, g3⟩ := trod_struct4 Try.underlying58 h
 rw [hy] at hw
 have w2 : Rows.uptoBulk y2.1 ≤ 1048576 := bulk_part hw (by simp)
 match cs, hlen with
 | [v0, v1, v2, v3], _ =>
  obtain ⟨z0, e0, _, wf0⟩ := DataW.trod_int Try.underlying3 g0
  obtain ⟨z1, e1, _, wf1⟩ := DataW.trod_int Try.underlying3 g1
  obtain ⟨a, l, c, zs, e2, rd, hl, hc⟩ := open_bytesU g2 w2
  obtain ⟨z3, e3, _, wf3⟩ := DataW.trod_int Try.underlying5 g3
  simp [c3, c24, c5] at e0 e1 e2 e3
  subst e0 e1 e2 e3
  exact ⟨⟨z0, z1, a, l, c, z3, zs⟩, rfl, ⟨rd, hl, hc, bounds_u8 wf3, bounds_i64 wf0, bounds_i64 wf1⟩⟩
theorem open_faults {v : Value} {y : DataW H × List MemPlace} (h : DataW.trod enc Try.prog W 0 (fun _ => true) true fuel 49 [v] = some y) (hw : Rows.uptoBulk y.1 ≤ 1048576) : ∃ a l c fs, v = .slice a l c ∧ ReadsF W a l fs ∧ l ≤ 1048576 := by
 rcases open_slice Try.underlying49 h with ⟨hcs, _⟩ | ⟨x, l, c, m, n, D, Pl, hcs, _, hl, hm, hmm, hx, hcell⟩
 ·injection hcs with hcs
  exact ⟨none, 0, 0, [], hcs, ⟨rfl, (fun _ h => by cases h), fun _ => rfl, fun _ h => by cases h⟩, by omega⟩
 ·injection hcs with hcs
  have hd := congrArg Prod.fst hx
  simp only at hd
  rw [hd] at hw
  obtain ⟨h1, h2⟩ := bulk_slice hw
  simp only [List.length_map, List.length_range] at h1
  have each : ∀ i, i < l → ∃ q : Fc, FcOk W q ∧ ∀ j, j < 4 → W.cell? (x.add (i * 4 + j)) = some (q.cell j) := by
   intro i hi
   obtain ⟨cs', k1, k2⟩ := hcell i (by rw [hmm]; simp; omega)
   rw [c58] at k1
   obtain ⟨_, hlen, hc⟩ := World.cells?_some k1
   obtain ⟨q, hq, hok⟩ := open_fault hlen k2 (h2 _ (List.mem_map.2 ⟨i, List.mem_range.2 hi, rfl⟩))
   refine ⟨q, hok, fun j hj => ?_⟩
   have h9 := hc j hj
   rw [Deep.add_add] at h9
   rw [h9, hq]
   rcases j with _ | _ | _ | _ | j
   ·rfl
   ·rfl
   ·rfl
   ·rfl
   ·omega
  have : Inhabited Fc := ⟨Fc.zero⟩
  obtain ⟨q, hq⟩ := Deep.choose_lt each
  refine ⟨some x, l, c, (List.range l).map q, hcs, ⟨by simp, fun e he => ?_, (fun h => by cases h), fun y hy i hi j hj => ?_⟩, by omega⟩
  ·obtain ⟨i, hi, rfl⟩ := List.mem_map.1 he
   exact (hq i (List.mem_range.1 hi)).1
  ·cases hy
   rw [(hq i hi).2 j hj]
   simp [List.getD_eq_getElem?_getD, hi]
theorem open_op {y : DataW H × List MemPlace} (hlen : cs.length = 7) (h : DataW.trod enc Try.prog W 0 (fun _ => true) true fuel 56 cs = some y) (hw : Rows.uptoBulk y.1 ≤ 1048576) : ∃ x : Ox, cs = [x.cell 0, x.cell 1, x.cell 2, x.cell 3, x.cell 4, x.cell 5, x.cell 6] ∧ OxOk W x := by
 obtain ⟨xs, n, _, hy, hcl, hxl, hf⟩ := DataW.trod_struct Try.underlying56 h
 match xs, hxl with
 | [y0, y1, y2, y3, y4], _ =>
  rw [hy] at hw
  have w4 : Rows.uptoBulk y4.1 ≤ 1048576 := bulk_part hw (by simp)
  match cs, hlen with
  | [v0, v1, v2, v3, v4, v5, v6], _ =>
   have g0 := hf 0 _ rfl
   have g1 := hf 1 _ rfl
   have g2 := hf 2 _ rfl
   have g3 := hf 3 _ rfl
   have g4 := hf 4 _ rfl
   obtain ⟨z0, e0, _, wf0⟩ := DataW.trod_int Try.underlying3 g0
   obtain ⟨p0, p1, k1, _, _, q0, q1⟩ := trod_struct2 Try.underlying41 g1
   obtain ⟨z1, e1, _, wf1⟩ := DataW.trod_int Try.underlying3 q0
   obtain ⟨z2, e2, _, wf2⟩ := DataW.trod_int Try.underlying3 q1
   obtain ⟨z3, e3, _, wf3⟩ := DataW.trod_int Try.underlying3 g2
   obtain ⟨b4, e4, _⟩ := DataW.trod_bool Try.underlying4 g3
   obtain ⟨r0, r1, k2, hr, _, s0, s1⟩ := trod_struct2 Try.underlying36 g4
   rw [hr] at w4
   have wa : Rows.uptoBulk r0.1 ≤ 1048576 := bulk_part w4 (by simp)
   have wb : Rows.uptoBulk r1.1 ≤ 1048576 := bulk_part w4 (by simp)
   obtain ⟨a5, l5, c5', zs5, e5, rd5, hl5, hc5⟩ := open_bytesU s0 wa
   obtain ⟨a6, l6, c6, zs6, e6, rd6, hl6, hc6⟩ := open_bytesU s1 wb
   simp [c3, c4, c24, c41, c36] at e0 e1 e2 e3 e4 e5 e6
   subst e0 e1 e2 e3 e4 e5 e6
   exact ⟨⟨⟨z0, z1, z2, z3, b4, zs5, zs6⟩, a5, l5, c5', a6, l6, c6⟩, rfl, ⟨rd5, rd6, hl5, hl6, (bounds_i64 wf3).2⟩⟩
theorem open_opsU {v : Value} {y : DataW H × List MemPlace} (h : DataW.trod enc Try.prog W 0 (fun _ => true) true fuel 50 [v] = some y) (hw : Rows.uptoBulk y.1 ≤ 1048576) : ∃ a l c xs, v = .slice a l c ∧ ReadsO W a l xs ∧ l ≤ 1048576 := by
 rcases open_slice Try.underlying50 h with ⟨hcs, _⟩ | ⟨x, l, c, m, n, D, Pl, hcs, _, hl, hm, hmm, hx, hcell⟩
 ·injection hcs with hcs
  exact ⟨none, 0, 0, [], hcs, ⟨rfl, (fun _ h => by cases h), fun _ => rfl, fun _ h => by cases h⟩, by omega⟩
 ·injection hcs with hcs
  have hd := congrArg Prod.fst hx
  simp only at hd
  rw [hd] at hw
  obtain ⟨h1, h2⟩ := bulk_slice hw
  simp only [List.length_map, List.length_range] at h1
  have each : ∀ i, i < l → ∃ q : Ox, OxOk W q ∧ ∀ j, j < 7 → W.cell? (x.add (i * 7 + j)) = some (q.cell j) := by
   intro i hi
   obtain ⟨cs', k1, k2⟩ := hcell i (by rw [hmm]; simp; omega)
   rw [c56] at k1
   obtain ⟨_, hlen, hc⟩ := World.cells?_some k1
   obtain ⟨q, hq, hok⟩ := open_op hlen k2 (h2 _ (List.mem_map.2 ⟨i, List.mem_range.2 hi, rfl⟩))
   refine ⟨q, hok, fun j hj => ?_⟩
   have h9 := hc j hj
   rw [Deep.add_add] at h9
   rw [h9, hq]
   rcases j with _ | _ | _ | _ | _ | _ | _ | j
   ·rfl
   ·rfl
   ·rfl
   ·rfl
   ·rfl
   ·rfl
   ·rfl
   ·omega
  have : Inhabited Ox := ⟨Ox.zero⟩
  obtain ⟨q, hq⟩ := Deep.choose_lt each
  refine ⟨some x, l, c, (List.range l).map q, hcs, ⟨by simp, fun e he => ?_, (fun h => by cases h), fun y hy i hi j hj => ?_⟩, by omega⟩
  ·obtain ⟨i, hi, rfl⟩ := List.mem_map.1 he
   exact (hq i (List.mem_range.1 hi)).1
  ·cases hy
   rw [(hq i hi).2 j hj]
   simp [List.getD_eq_getElem?_getD, hi]
end
theorem three_bulk {H : Type} {d0 d1 d2 : DataW H} (hk : Rows.uptoSmall H ([d0, d1, d2] ++ []) = true) : Rows.uptoBulk d0 ≤ 1048576 ∧ Rows.uptoBulk d1 ≤ 1048576 ∧ Rows.uptoBulk d2 ≤ 1048576 := by
 have h : Rows.uptoBulkAll [d0, d1, d2] ≤ 1048576 := of_decide_eq_true hk
 simp only [Rows.uptoBulkAll] at h
 omega
theorem array5 {α : Type} {cs : Array α} (h : cs.size = 5) : ∃ c0 c1 c2 c3 c4, cs = #[c0, c1, c2, c3, c4] := by
 obtain ⟨l⟩ := cs
 match l, h with
 | [c0, c1, c2, c3, c4], _ => exact ⟨c0, c1, c2, c3, c4, rfl⟩
section
variable {H : Type} {enc : TypeId × Value → H} {W : World}
theorem open_boolsU {n : Nat} {v : Value} {y : DataW H × List MemPlace} (h : DataW.trod enc Try.prog W 0 (fun _ => true) true n 25 [v] = some y) (hw : Rows.uptoBulk y.1 ≤ 1048576) :
  ∃ a len c bs, v = .slice a len c ∧ ReadsB W a len bs ∧ len ≤ 1048576 ∧ (a = none → c = 0) := by
 rcases Deep.open_bools Try.underlying25 Try.underlying4 (by kernel_rfl) h with ⟨hcs, hy⟩ | ⟨a, len, cap, Bf, hcs, hb, hl, hm, hx, hcell⟩
 ·injection hcs with hcs
  subst hcs
  exact ⟨none, 0, 0, [], rfl, ⟨rfl, fun _ => rfl, fun _ h => by cases h⟩, by omega, fun _ => rfl⟩
 ·injection hcs with hcs
  subst hcs
  have hd := congrArg Prod.fst hx
  simp only [Deep.boolRow] at hd
  rw [hd] at hw
  have h1 := (bulk_slice hw).1
  simp only [List.length_map, List.length_range] at h1
  refine ⟨some a, len, cap, (List.range len).map Bf, rfl, ⟨by simp, (fun h => by cases h), fun z hz i hi => ?_⟩, by omega, fun h => by cases h⟩
  cases hz
  rw [hcell i (by omega)]
  simp [List.getD_eq_getElem?_getD, hi]
theorem open_bytesV {y : DataW H × List MemPlace} (h : DataW.trod enc Try.prog W 0 (fun _ => true) true fuel 24 cs = some y) (hw : Rows.uptoBulk y.1 ≤ 1048576) : ∃ a l c zs, cs = [.slice a l c] ∧ Reads W a l zs ∧ l ≤ 1048576 ∧ l ≤ c := by
 rcases open_ints Try.underlying24 Try.underlying5 c5 h with ⟨hcs, _⟩ | ⟨x, l, c, zs, hcs, _, hl, hm, hz, hx, hcell, hwz⟩
 ·exact ⟨none, 0, 0, [], hcs, ⟨rfl, (fun _ h => by cases h), fun _ => rfl, fun _ h => by cases h⟩, by omega, by omega⟩
 ·have hz' : zs.length = c := by simpa using hz
  have hd := congrArg Prod.fst hx
  simp only at hd
  rw [hd] at hw
  have h1 := (bulk_slice hw).1
  simp only [lits, List.length_map, List.length_take, List.length_drop] at h1
  refine ⟨some x, l, c, zs.take l, hcs, ⟨by simp; omega, fun n hn => bounds_u8 (hwz n (List.mem_of_mem_take hn)), (fun h => by cases h), fun y hy i hi => ?_⟩, by omega, hl⟩
  cases hy
  rw [hcell i (by omega)]
  simp [List.getD, hi]
theorem open_imgU {base : Nat} {v : Value} {d : DataW H} {p : List MemPlace} (hv : Value.okWide Try.prog W .any base 27 v) (h : DataW.Trod enc Try.prog W 0 (fun _ => true) true 27 v d p) (hw : Rows.uptoBulk d ≤ 1048576) :
  ∃ b q s a n c a' m c' zs bs, v = .agg #[.int .i64 b, .int .i64 q, .int .i64 s, .slice a n c, .slice a' m c'] ∧ Reads W a n zs ∧ n ≤ 1048576 ∧ n ≤ c ∧ ReadsB W a' m bs ∧ m ≤ 1048576 ∧ (a' = none → c' = 0) := by
 obtain ⟨cs, rfl, hsz⟩ := okWide_struct Try.underlying27 hv
 obtain ⟨v0, v1, v2, v3, v4, rfl⟩ := array5 (hsz.trans c27)
 obtain ⟨fuel, hf⟩ := h
 obtain ⟨y0, y1, y2, n, hx, _, h0, h1, h2⟩ := Deep.trod_struct3 Try.underlying27 hf
 simp only [Value.cells, c23, c24, c25, List.drop_zero, List.drop_succ_cons, List.take_succ_cons, List.take_zero] at h0 h1 h2
 obtain ⟨z0, z1, z2, k, hx0, _, i0, i1, i2⟩ := Deep.trod_struct3 Try.underlying23 h0
 simp only [c3, List.drop_zero, List.drop_succ_cons, List.take_succ_cons, List.take_zero] at i0 i1 i2
 obtain ⟨b, e0, _, _⟩ := DataW.trod_int Try.underlying3 i0
 obtain ⟨q, e1, _, _⟩ := DataW.trod_int Try.underlying3 i1
 obtain ⟨s, e2, _, _⟩ := DataW.trod_int Try.underlying3 i2
 simp at e0 e1 e2
 subst e0 e1 e2
 have hd := (Prod.mk.inj hx).1
 rw [hd] at hw
 obtain ⟨a, l, c, zs, e3, r1, s1, t1⟩ := open_bytesV h1 (bulk_part hw (by simp))
 injection e3 with e3
 subst e3
 obtain ⟨a', m, c', bs, rfl, r2, s2, t2⟩ := open_boolsU h2 (bulk_part hw (by simp))
 exact ⟨b, q, s, a, l, c, a', m, c', zs, bs, rfl, r1, s1, t1, r2, s2, t2⟩
end
end Go.Proofs.Ytadlkikjfonkgaa
