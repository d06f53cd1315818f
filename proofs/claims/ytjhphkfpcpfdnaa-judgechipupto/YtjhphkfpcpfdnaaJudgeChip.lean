/-
  SEAT Ytjhphkfpcpfdnaa: JudgeChip, of arguments that are small together.
-/
import Derived.Test.YtjhphkfpcpfdnaaPe
import Derived.JoinedCond
import Derived.ProofKit
import Derived.OpenShut
import Derived.ChangeOld
import Derived.Deep.Grids
import Derived.Deep.SlicePairs
namespace Go.Proofs.Ytjhphkfpcpfdnaa
open Go.ChangeShapes Go.WideShapes Go.ChangeAt Go.RowKit Go.Joins Go.Deep Go.ChangeMaps
set_option linter.unusedVariables false

theorem jchipWalk (gB gP gS : Int) (ba : Option Addr) (bn bc : Nat) (bad : List Int) (sa : Option Addr) (n c : Nat) (fs : List Fc) (oa : Option Addr) (on oc : Nat) (xs : List Ac) (w : World) (hR : ReadsI w ba bn bad) (hbn : bn ≤ 9223372036854775807) (hF : ReadsF w sa n fs) (hn : n ≤ 140737488351232) (hO : ReadsA w oa on xs) (hon : on ≤ 1048576) :
    Calls Try.prog 3 #[.agg #[.int .i64 gB, .int .i64 gP, .int .i64 gS], .slice ba bn bc, .slice sa n c, .slice oa on oc] w fun e w' => e = .returned (.bool true) ∧ Below w.heap.size w w' := by
  by_cases h : NewE gB gP gS bad fs = 0
  · have h9 := of_decide_eq_true (newE_zero h).1
    obtain ⟨B, rfl⟩ : ∃ B : Nat, gB = B := ⟨gB.toNat, by omega⟩
    obtain ⟨P, rfl⟩ : ∃ P : Nat, gP = P := ⟨gP.toNat, by omega⟩
    obtain ⟨S, rfl⟩ : ∃ S : Nat, gS = S := ⟨gS.toNat, by omega⟩
    exact jchip_yes w B P S ba bn bc bad hR hbn sa n c fs hF (by omega) oa on oc xs hO hon h
  · exact jchip_no w gB gP gS ba bn bc bad hR hbn sa n c fs hF (by omega) oa on oc xs hO hon h
def Fc.row (c : Fc) : List Value := [.int .i64 c.a, .int .i64 c.k, .slice c.ma c.ml c.mc, .int .u8 c.f]
theorem some_bulk {H : Type} (d : DataW H) : 0 < Rows.uptoBulk d := by
  rcases d with l | _ | _ | _ | _ | _ | _ | _
  · cases l <;> simp [Rows.uptoBulk]
  all_goals simp [Rows.uptoBulk]
theorem many_bulk {H : Type} : ∀ l : List (DataW H), l.length ≤ Rows.uptoBulkAll l
  | [] => Nat.zero_le _
  | d :: r => by
    have h1 := many_bulk r
    have h2 := some_bulk d
    simp only [Rows.uptoBulkAll, List.length_cons]
    omega
theorem mem_bulk {H : Type} : ∀ {l : List (DataW H)} {d : DataW H}, d ∈ l → Rows.uptoBulk d ≤ Rows.uptoBulkAll l
  | [], _, h => by cases h
  | x :: r, d, h => by
    simp only [Rows.uptoBulkAll]
    rcases List.mem_cons.1 h with rfl | h
    · omega
    · have := mem_bulk h
      omega
theorem bulk_slice {H : Type} {es sp : List (DataW H)} (h : Rows.uptoBulk (.slice es sp) ≤ 1048576) : es.length + sp.length ≤ 1048576 ∧ ∀ d ∈ es, Rows.uptoBulk d ≤ 1048576 := by
  have h1 := many_bulk es
  have h2 := many_bulk sp
  simp only [Rows.uptoBulk] at h
  exact ⟨by omega, fun d hd => by have := mem_bulk hd; omega⟩
theorem bulk_part {H : Type} {ps : List (DataW H)} (h : Rows.uptoBulk (.agg ps) ≤ 1048576) {d : DataW H} (hd : d ∈ ps) : Rows.uptoBulk d ≤ 1048576 := by
  simp only [Rows.uptoBulk] at h
  have := mem_bulk hd
  omega
theorem four {H : Type} {d0 d1 d2 d3 : DataW H} (hk : Rows.uptoSmall H ([d0, d1, d2, d3] ++ []) = true) : Rows.uptoBulk d2 ≤ 1048576 ∧ Rows.uptoBulk d3 ≤ 1048576 := by
  have h : Rows.uptoBulkAll [d0, d1, d2, d3] ≤ 1048576 := of_decide_eq_true hk
  simp only [Rows.uptoBulkAll] at h
  omega
theorem c3 : Try.prog.cellsOf 3 = 1 := by kernel_rfl
theorem c5 : Try.prog.cellsOf 5 = 1 := by kernel_rfl
theorem c32 : Try.prog.cellsOf 32 = 1 := by kernel_rfl
theorem c67 : Try.prog.cellsOf 67 = 4 := by kernel_rfl
theorem c45 : Try.prog.cellsOf 45 = 3 := by kernel_rfl
theorem c23 : Try.prog.cellsOf 23 = 3 := by kernel_rfl

section
variable {H : Type} {enc : TypeId × Value → H} {W : World}
theorem open_bytesU {fuel : Nat} {cs : List Value} {y : DataW H × List MemPlace} (h : DataW.trod enc Try.prog W 0 (fun _ => true) true fuel 32 cs = some y) (hw : Rows.uptoBulk y.1 ≤ 1048576) : ∃ a l c zs, cs = [.slice a l c] ∧ Reads W a l zs ∧ l ≤ 140737488351232 ∧ l ≤ c := by
  rcases open_ints Try.underlying32 Try.underlying5 c5 h with ⟨hcs, _⟩ | ⟨x, l, c, zs, hcs, _, hl, hm, hz, hx, hcell, hwz⟩
  · exact ⟨none, 0, 0, [], hcs, ⟨rfl, (fun _ h => by cases h), fun _ => rfl, fun _ h => by cases h⟩, by omega, by omega⟩
  · have hz' : zs.length = c := by simpa using hz
    have hd := congrArg Prod.fst hx
    simp only at hd
    rw [hd] at hw
    have h1 := (bulk_slice hw).1
    simp only [lits, List.length_map, List.length_take, List.length_drop] at h1
    refine ⟨some x, l, c, zs.take l, hcs, ⟨by simp; omega, fun n hn => bounds_u8 (hwz n (List.mem_of_mem_take hn)), (fun h => by cases h), fun y hy i hi => ?_⟩, by omega, hl⟩
    cases hy
    rw [hcell i (by omega)]
    simp [List.getD, hi]
set_option maxRecDepth 100000 in
theorem open_fault {fuel : Nat} {cs : List Value} {y : DataW H × List MemPlace} (hlen : cs.length = 4) (h : DataW.trod enc Try.prog W 0 (fun _ => true) true fuel 67 cs = some y) (hw : Rows.uptoBulk y.1 ≤ 1048576) : ∃ c : Fc, cs = c.row ∧ FcOk W c := by
  obtain ⟨y0, y1, y2, y3, k, hy, hcl, g0, g1, g2, g3⟩ := trod_struct4 Try.underlying67 h
  rw [hy] at hw
  have w2 : Rows.uptoBulk y2.1 ≤ 1048576 := bulk_part hw (by simp)
  match cs, hlen with
  | [v0, v1, v2, v3], _ =>
    obtain ⟨z0, e0, _, wf0⟩ := DataW.trod_int Try.underlying3 g0
    obtain ⟨z1, e1, _, wf1⟩ := DataW.trod_int Try.underlying3 g1
    obtain ⟨a, l, c, zs, e2, rd, hl, hc⟩ := open_bytesU g2 w2
    obtain ⟨z3, e3, _, wf3⟩ := DataW.trod_int Try.underlying5 g3
    simp [c3, c32, c5] at e0 e1 e2 e3
    subst e0 e1 e2 e3
    exact ⟨⟨z0, z1, a, l, c, z3, zs⟩, rfl, ⟨rd, hl, hc, bounds_u8 wf3, bounds_i64 wf0, bounds_i64 wf1⟩⟩
set_option maxRecDepth 100000 in
theorem open_faults {fuel : Nat} {v : Value} {y : DataW H × List MemPlace} (h : DataW.trod enc Try.prog W 0 (fun _ => true) true fuel 25 [v] = some y) (hw : Rows.uptoBulk y.1 ≤ 1048576) : ∃ a l c fs, v = .slice a l c ∧ ReadsF W a l fs ∧ l ≤ 140737488351232 := by
  rcases open_slice Try.underlying25 h with ⟨hcs, _⟩ | ⟨x, l, c, m, n, D, Pl, hcs, _, hl, hm, hmm, hx, hcell⟩
  · injection hcs with hcs
    exact ⟨none, 0, 0, [], hcs, ⟨rfl, (fun _ h => by cases h), fun _ => rfl, fun _ h => by cases h⟩, by omega⟩
  · injection hcs with hcs
    have hd := congrArg Prod.fst hx
    simp only at hd
    rw [hd] at hw
    obtain ⟨h1, h2⟩ := bulk_slice hw
    simp only [List.length_map, List.length_range] at h1
    have each : ∀ i, i < l → ∃ q : Fc, FcOk W q ∧ ∀ j, j < 4 → W.cell? (x.add (i * 4 + j)) = some (q.cell j) := by
      intro i hi
      obtain ⟨cs', k1, k2⟩ := hcell i (by rw [hmm]; simp; omega)
      rw [c67] at k1
      obtain ⟨_, hlen, hc⟩ := World.cells?_some k1
      obtain ⟨q, hq, hok⟩ := open_fault hlen k2 (h2 _ (List.mem_map.2 ⟨i, List.mem_range.2 hi, rfl⟩))
      refine ⟨q, hok, fun j hj => ?_⟩
      have h9 := hc j hj
      rw [Deep.add_add] at h9
      rw [h9, hq]
      rcases j with _ | _ | _ | _ | j
      · rfl
      · rfl
      · rfl
      · rfl
      · omega
    have : Inhabited Fc := ⟨Fc.zero⟩
    obtain ⟨q, hq⟩ := Deep.choose_lt each
    refine ⟨some x, l, c, (List.range l).map q, hcs, ⟨by simp, fun e he => ?_, (fun h => by cases h), fun y hy i hi j hj => ?_⟩, by omega⟩
    · obtain ⟨i, hi, rfl⟩ := List.mem_map.1 he
      exact (hq i (List.mem_range.1 hi)).1
    · cases hy
      rw [(hq i hi).2 j hj]
      simp [List.getD_eq_getElem?_getD, hi]
set_option maxRecDepth 100000 in
theorem open_act {fuel : Nat} {cs : List Value} {y : DataW H × List MemPlace} (hlen : cs.length = 3) (h : DataW.trod enc Try.prog W 0 (fun _ => true) true fuel 45 cs = some y) : ∃ c : Ac, cs = [c.cell 0, c.cell 1, c.cell 2] ∧ c.Ok := by
  obtain ⟨xs, n, _, hy, hcl, hxl, hf⟩ := DataW.trod_struct Try.underlying45 h
  match xs, hxl with
  | [y0, y1, y2], _ =>
    match cs, hlen with
    | [v0, v1, v2], _ =>
      have g0 := hf 0 _ rfl
      have g1 := hf 1 _ rfl
      have g2 := hf 2 _ rfl
      obtain ⟨z0, e0, _, wf0⟩ := DataW.trod_int Try.underlying3 g0
      obtain ⟨z1, e1, _, wf1⟩ := DataW.trod_int Try.underlying3 g1
      obtain ⟨z2, e2, _, wf2⟩ := DataW.trod_int Try.underlying3 g2
      simp [c3] at e0 e1 e2
      subst e0 e1 e2
      exact ⟨⟨z0, z1, z2⟩, rfl, ⟨bounds_i64 wf0, bounds_i64 wf1, bounds_i64 wf2⟩⟩
set_option maxRecDepth 100000 in
theorem open_acts {fuel : Nat} {v : Value} {y : DataW H × List MemPlace} (h : DataW.trod enc Try.prog W 0 (fun _ => true) true fuel 26 [v] = some y) (hw : Rows.uptoBulk y.1 ≤ 1048576) : ∃ a l c xs, v = .slice a l c ∧ ReadsA W a l xs ∧ l ≤ 1048576 := by
  rcases open_slice Try.underlying26 h with ⟨hcs, _⟩ | ⟨x, l, c, m, n, D, Pl, hcs, _, hl, hm, hmm, hx, hcell⟩
  · injection hcs with hcs
    exact ⟨none, 0, 0, [], hcs, ⟨rfl, (fun _ h => by cases h), fun _ => rfl, fun _ h => by cases h⟩, by omega⟩
  · injection hcs with hcs
    have hd := congrArg Prod.fst hx
    simp only at hd
    rw [hd] at hw
    obtain ⟨h1, _⟩ := bulk_slice hw
    simp only [List.length_map, List.length_range] at h1
    have each : ∀ i, i < l → ∃ q : Ac, q.Ok ∧ ∀ j, j < 3 → W.cell? (x.add (i * 3 + j)) = some (q.cell j) := by
      intro i hi
      obtain ⟨cs', k1, k2⟩ := hcell i (by rw [hmm]; simp; omega)
      rw [c45] at k1
      obtain ⟨_, hlen, hc⟩ := World.cells?_some k1
      obtain ⟨q, hq, hok⟩ := open_act hlen k2
      refine ⟨q, hok, fun j hj => ?_⟩
      have h9 := hc j hj
      rw [Deep.add_add] at h9
      rw [h9, hq]
      rcases j with _ | _ | _ | j
      · rfl
      · rfl
      · rfl
      · omega
    have : Inhabited Ac := ⟨Ac.zero⟩
    obtain ⟨q, hq⟩ := Deep.choose_lt each
    refine ⟨some x, l, c, (List.range l).map q, hcs, ⟨by simp, fun e he => ?_, (fun h => by cases h), fun y hy i hi j hj => ?_⟩, by omega⟩
    · obtain ⟨i, hi, rfl⟩ := List.mem_map.1 he
      exact (hq i (List.mem_range.1 hi)).1
    · cases hy
      rw [(hq i hi).2 j hj]
      simp [List.getD_eq_getElem?_getD, hi]
theorem open_intsU {fuel : Nat} {v : Value} {y : DataW H × List MemPlace} (h : DataW.trod enc Try.prog W 0 (fun _ => true) true fuel 24 [v] = some y) : ∃ a l c zs, v = .slice a l c ∧ ReadsI W a l zs ∧ l ≤ 9223372036854775807 := by
  rcases open_ints Try.underlying24 Try.underlying3 c3 h with ⟨hcs, _⟩ | ⟨x, l, c, zs, hcs, _, hl, hm, hz, hx, hcell, hwz⟩
  · injection hcs with hcs
    exact ⟨none, 0, 0, [], hcs, ⟨rfl, (fun _ h => by cases h), fun _ => rfl, fun _ h => by cases h⟩, by omega⟩
  · injection hcs with hcs
    have hz' : zs.length = c := by simpa using hz
    refine ⟨some x, l, c, zs.take l, hcs, ⟨by simp; omega, fun n hn => bounds_i64 (hwz n (List.mem_of_mem_take hn)), (fun h => by cases h), fun y hy i hi => ?_⟩, by simp [maxLen] at hm; omega⟩
    cases hy
    rw [hcell i (by omega)]
    simp [List.getD, hi]
end
end Go.Proofs.Ytjhphkfpcpfdnaa
namespace Go.Proofs.Ytjhphkfpcpfdnaa.judgeChip
open Go.ChangeShapes Go.WideShapes Go.ChangeAt Go.RowKit Go.Joins Go.Deep Go.ChangeMaps
set_option linter.unusedVariables false

theorem own : ownKnob Try.prog.godebug = none := by kernel_rfl
theorem laidOut : laidOutB Try.prog = true := by kernel_rfl

set_option maxHeartbeats 1000000 in
set_option maxRecDepth 100000 in
theorem contract (H : Type) (enc : TypeId × Value → H) (W : World) (base : Nat) (args : Array Value) (ds gs : List (DataW H)) (before : List MemPlace)
    (hval : ∀ (j : Nat) t v, Try.f3.params[j]? = some t → args[j]? = some v → Value.okWide Try.prog W .any base t v)
    (hW : DataW.Whole enc Try.prog Try.f3.params.toList Rows.judgeChipSpec.vars false W args.toList ds gs before) (hk : Rows.uptoSmall H (ds ++ gs) = true) :
    Calls Try.prog 3 args W fun e W' => ∃ v, e = .returned v ∧ Rows.judgeChipSpec.post enc Try.prog Try.f3 false true false false W args v W' := by
  have hW' := hW
  obtain ⟨pp, q, hA0, hV, rfl, hfz, hnd⟩ := hW
  have hA : DataW.TrodAll enc Try.prog W 0 (fun _ => true) true Try.f3.params.toList args.toList ds pp := hA0
  rw [Try.params3] at hA hval
  obtain ⟨v0, vs0, d0, ds0, p0, q0, hargs, rfl, rfl, h0, r0⟩ := trodAll_cons hA
  obtain ⟨v1, vs1, d1, ds1, p1, q1, rfl, rfl, rfl, h1, r1⟩ := trodAll_cons r0
  obtain ⟨v2, vs2, d2, ds2, p2, q2, rfl, rfl, rfl, h2, r2⟩ := trodAll_cons r1
  obtain ⟨v3, vs3, d3, ds3, p3, q3, rfl, rfl, rfl, h3, r3⟩ := trodAll_cons r2
  obtain ⟨rfl, rfl, rfl⟩ := trodAll_nil r3
  obtain rfl : args = #[v0, v1, v2, v3] := by cases args; simp_all
  obtain ⟨rfl, rfl⟩ := trodVars_none hV
  obtain ⟨u2, u3⟩ := four hk
  have k0 := h0
  have lt0 : ∀ x ∈ p0, x.block < W.heap.size := by obtain ⟨m, hm⟩ := k0; exact DataW.trod_lt m _ _ _ hm
  obtain ⟨x00, x01, x02, y00, y01, y02, m0, rfl, rfl, rfl, hy00, hy01, hy02⟩ := open_agg3 Try.underlying23 (by kernel_rfl) c23 (hval 0 23 v0 rfl rfl) h0
  obtain ⟨g00, e00, rfl, wg00⟩ := DataW.trod_int Try.underlying3 hy00
  obtain ⟨g01, e01, rfl, wg01⟩ := DataW.trod_int Try.underlying3 hy01
  obtain ⟨g02, e02, rfl, wg02⟩ := DataW.trod_int Try.underlying3 hy02
  simp at e00 e01 e02
  subst e00 e01 e02
  have k1 := h1
  have lt1 : ∀ x ∈ p1, x.block < W.heap.size := by obtain ⟨m, hm⟩ := k1; exact DataW.trod_lt m _ _ _ hm
  obtain ⟨a1, l1, c1, z1, hv1, rd1, s1⟩ : ∃ a l c zs, v1 = .slice a l c ∧ ReadsI W a l zs ∧ l ≤ 9223372036854775807 := by
    obtain ⟨fuel, hf⟩ := h1
    have hc1 : v1.cells.toList = [v1] := by
      obtain ⟨q1, q2, q3, rfl⟩ := okWide_slice Try.underlying24 (hval 1 24 v1 rfl rfl)
      rfl
    rw [hc1] at hf
    exact open_intsU hf
  subst hv1
  have k2 := h2
  have lt2 : ∀ x ∈ p2, x.block < W.heap.size := by obtain ⟨m, hm⟩ := k2; exact DataW.trod_lt m _ _ _ hm
  obtain ⟨a2, l2, c2, z2, hv2, rd2, s2⟩ : ∃ a l c zs, v2 = .slice a l c ∧ ReadsF W a l zs ∧ l ≤ 140737488351232 := by
    obtain ⟨fuel, hf⟩ := h2
    have hc2 : v2.cells.toList = [v2] := by
      obtain ⟨q1, q2, q3, rfl⟩ := okWide_slice Try.underlying25 (hval 2 25 v2 rfl rfl)
      rfl
    rw [hc2] at hf
    exact open_faults hf u2
  subst hv2
  have k3 := h3
  have lt3 : ∀ x ∈ p3, x.block < W.heap.size := by obtain ⟨m, hm⟩ := k3; exact DataW.trod_lt m _ _ _ hm
  obtain ⟨a3, l3, c3, z3, hv3, rd3, s3⟩ : ∃ a l c zs, v3 = .slice a l c ∧ ReadsA W a l zs ∧ l ≤ 1048576 := by
    obtain ⟨fuel, hf⟩ := h3
    have hc3 : v3.cells.toList = [v3] := by
      obtain ⟨q1, q2, q3, rfl⟩ := okWide_slice Try.underlying26 (hval 3 26 v3 rfl rfl)
      rfl
    rw [hc3] at hf
    exact open_acts hf u3
  subst hv3
  clear hA0
  refine (jchipWalk g00 g01 g02 a1 l1 c1 z1 a2 l2 c2 z2 a3 l3 c3 z3 W rd1 s1 rd2 s2 rd3 s3).mono fun e W' ⟨he, bel⟩ => ?_
  subst he
  exact ⟨_, rfl, _, _, _, [], _, [], hW', trodAll_mk1 (shut_bool Try.underlying4 _), (trodAll_cons_mk (Below.trod laidOut (by kernel_rfl) (of_decide_eq_true (by kernel_rfl)) k0 bel lt0) (trodAll_cons_mk (Below.trod laidOut (by kernel_rfl) (of_decide_eq_true (by kernel_rfl)) k1 bel lt1) (trodAll_cons_mk (Below.trod laidOut (by kernel_rfl) (of_decide_eq_true (by kernel_rfl)) k2 bel lt2) (trodAll_cons_mk (Below.trod laidOut (by kernel_rfl) (of_decide_eq_true (by kernel_rfl)) k3 bel lt3) trodAll_mk0)))), rfl, bel.frame _, fun h => by cases h⟩

set_option maxRecDepth 100000 in
theorem lifted (os : Os) (started : os.Started) (H : Type) (enc : TypeId × Value → H) (F : Stop.Interp) :
    ReturnsInHanded {} Try.checked os 3 .any ((Rows.OpenSpec.upto Rows.judgeChipSpec).pre6 enc Try.prog Try.f3 Rows.judgeChipUptoRow.domain false) (((Rows.OpenSpec.upto Rows.judgeChipSpec).at F).post enc Try.prog Try.f3 false true false false) := by
  refine returnsInHanded_of_cond (C := Try.checked) (s := Rows.OpenSpec.upto Rows.judgeChipSpec) (k := Rows.uptoSmall) rfl own started (by kernel_rfl) Try.func3
    (OpenSpec.witness (enc := enc) (C := Try.checked) (s := Rows.OpenSpec.upto Rows.judgeChipSpec) (k := Rows.uptoSmall) rfl false ⟨#[], #[.agg #[.int .i64 0, .int .i64 0, .int .i64 0], .slice none 0 0, .slice none 0 0, .slice none 0 0], []⟩ 8 (by kernel_rfl) (by kernel_rfl) (by kernel_rfl)
      (x := ([.agg [.lit (.int .i64 0), .lit (.int .i64 0), .lit (.int .i64 0)], .nil, .nil, .nil], [], [])) (by kernel_rfl) rfl (by kernel_rfl)) ?_
  intro W base args ds gs before hval hW _ hk _
  exact contract H enc W base args ds gs before hval hW hk

theorem over : Rows.JudgeChipUptoSaid :=
  OpenClaim.holds_of_cond 3 Try.f3 rfl rfl rfl rfl rfl rfl rfl ⟨rfl, rfl, rfl, rfl, rfl⟩ rfl rfl rfl rfl rfl (by kernel_rfl) Try.func3 (by kernel_rfl)
    (of_decide_eq_true (by kernel_rfl)) (by unfold Func.isWrapper; first | (rw [if_pos (by decide +kernel)]; kernel_rfl) | (rw [if_neg (by decide +kernel)]; exact ⟨rfl, rfl⟩))
    (fun os started H enc _ F => lifted os started H enc F)
end Go.Proofs.Ytjhphkfpcpfdnaa.judgeChip
namespace Go.Proofs.Ytjhphkfpcpfdnaa
theorem judgeChip_upto : Rows.JudgeChipUptoSaid := judgeChip.over
#print axioms judgeChip_upto
end Go.Proofs.Ytjhphkfpcpfdnaa
