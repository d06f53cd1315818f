/-
  SEAT YtnmnhgagnfodhaaDoor: ImageChip.
-/
import Derived.Test.YtnmnhgagnfodhaaDoorMbs
import Derived.Test.YtnmnhgagnfodhaaDoorCards
import Derived.Test.YtnmnhgagnfodhaaDoorTie
import Derived.ProofKit
import Derived.OpenShut
import Derived.ShutString
import Derived.ChangeOld
import Derived.SizedLaws
import Derived.Deep.DeepHandedRow
import Derived.Lib.LaidTab
import Derived.Lib.SmallJoins
import Derived.Deep.Grids
import Derived.Deep.SlicePairs
namespace Go.Proofs.YtnmnhgagnfodhaaDoor.Cp
open Go.ChangeShapes Go.WideShapes Go.ChangeAt Go.RowKit Go.Joins Go.Deep Go.ChangeMaps
set_option linter.unusedVariables false
theorem icWalk (ba : Option Addr) (bn bc : Nat) (bad : List Int) (sa : Option Addr) (n c : Nat) (xs : List Sp) (w : World) (hR : ReadsI w ba bn bad) (hbn : bn ≤ 9223372036854775807) (hS : ReadsS w sa n xs) (hn : n ≤ 9223372036854775807) (ht : Tab w) :
  Calls Tryd.prog 3 #[.slice ba bn bc, .slice sa n c] w fun e w' => e = .returned (.bool true) ∧ Below w.heap.size w w' := by
 by_cases h : NewE 8 4 1 bad [] = 0
 ·exact ic_yes w ba bn bc bad hR hbn sa n c xs hS hn ht h
 ·exact ic_no w ba bn bc bad hR hbn sa n c xs hS hn ht h
theorem cl3 : Tryd.prog.cellsOf 3 = 1 := by kernel_rfl
theorem cl5 : Tryd.prog.cellsOf 5 = 1 := by kernel_rfl
theorem cl32 : Tryd.prog.cellsOf 32 = 1 := by kernel_rfl
theorem cl39 : Tryd.prog.cellsOf 39 = 6 := by kernel_rfl
section
variable {H : Type} {enc : TypeId × Value → H} {W : World}
theorem open_bytesW {fuel : Nat} {cs : List Value} {y : DataW H × List MemPlace} (h : DataW.trod enc Tryd.prog W 0 (fun _ => true) true fuel 32 cs = some y) : ∃ a l c zs, cs = [.slice a l c] ∧ Reads W a l zs ∧ l ≤ 9223372036854775807 := by
 rcases open_ints Tryd.underlying32 Tryd.underlying5 cl5 h with ⟨hcs, _⟩ | ⟨x, l, c, zs, hcs, _, hl, hm, hz, hx, hcell, hwz⟩
 ·exact ⟨none, 0, 0, [], hcs, ⟨rfl, (fun _ h => by cases h), fun _ => rfl, fun _ h => by cases h⟩, by omega⟩
 ·have hz' : zs.length = c := by simpa using hz
  refine ⟨some x, l, c, zs.take l, hcs, ⟨by simp; omega, fun n hn => bounds_u8 (hwz n (List.mem_of_mem_take hn)), (fun h => by cases h), fun y hy i hi => ?_⟩, by simp [maxLen] at hm; omega⟩
  cases hy
  rw [hcell i (by omega)]
  simp [List.getD, hi]
set_option maxRecDepth 100000 in
theorem open_step {fuel : Nat} {cs : List Value} {y : DataW H × List MemPlace} (hlen : cs.length = 6) (h : DataW.trod enc Tryd.prog W 0 (fun _ => true) true fuel 39 cs = some y) : ∃ s : Sp, cs = [s.cell 0, s.cell 1, s.cell 2, s.cell 3, s.cell 4, s.cell 5] ∧ SpOk W s := by
 obtain ⟨xs, n, _, hy, hcl, hxl, hf⟩ := DataW.trod_struct Tryd.underlying39 h
 match xs, hxl with
 | [y0, y1, y2, y3, y4, y5], _ =>
  match cs, hlen with
  | [v0, v1, v2, v3, v4, v5], _ =>
   have g0 := hf 0 _ rfl
   have g1 := hf 1 _ rfl
   have g2 := hf 2 _ rfl
   have g3 := hf 3 _ rfl
   have g4 := hf 4 _ rfl
   have g5 := hf 5 _ rfl
   obtain ⟨z0, e0, _, wf0⟩ := DataW.trod_int Tryd.underlying3 g0
   obtain ⟨z1, e1, _, wf1⟩ := DataW.trod_int Tryd.underlying3 g1
   obtain ⟨z2, e2, _, wf2⟩ := DataW.trod_int Tryd.underlying3 g2
   obtain ⟨z3, e3, _, wf3⟩ := DataW.trod_int Tryd.underlying3 g3
   obtain ⟨a, l, c, zs, e4, rd, hl⟩ := open_bytesW g4
   obtain ⟨z5, e5, _, wf5⟩ := DataW.trod_int Tryd.underlying5 g5
   simp [cl3, cl32, cl5] at e0 e1 e2 e3 e4 e5
   subst e0 e1 e2 e3 e4 e5
   exact ⟨⟨z0, z1, z2, z3, z5, a, l, c, zs⟩, rfl, ⟨rd, hl, bounds_u8 wf5, (bounds_i64 wf3).2⟩⟩
set_option maxRecDepth 100000 in
theorem open_stepsW {fuel : Nat} {v : Value} {y : DataW H × List MemPlace} (h : DataW.trod enc Tryd.prog W 0 (fun _ => true) true fuel 23 [v] = some y) : ∃ a l c xs, v = .slice a l c ∧ ReadsS W a l xs ∧ l ≤ 9223372036854775807 := by
 rcases open_slice Tryd.underlying23 h with ⟨hcs, _⟩ | ⟨x, l, c, m, n, D, Pl, hcs, _, hl, hm, hmm, hx, hcell⟩
 ·injection hcs with hcs
  exact ⟨none, 0, 0, [], hcs, ⟨rfl, (fun _ h => by cases h), fun _ => rfl, fun _ h => by cases h⟩, by omega⟩
 ·injection hcs with hcs
  have each : ∀ i, i < l → ∃ q : Sp, SpOk W q ∧ ∀ j, j < 6 → W.cell? (x.add (i * 6 + j)) = some (q.cell j) := by
   intro i hi
   obtain ⟨cs', k1, k2⟩ := hcell i (by rw [hmm]; simp; omega)
   rw [cl39] at k1
   obtain ⟨_, hlen, hc⟩ := World.cells?_some k1
   obtain ⟨q, hq, hok⟩ := open_step hlen k2
   refine ⟨q, hok, fun j hj => ?_⟩
   have h9 := hc j hj
   rw [Deep.add_add] at h9
   rw [h9, hq]
   rcases j with _ | _ | _ | _ | _ | _ | j
   ·rfl
   ·rfl
   ·rfl
   ·rfl
   ·rfl
   ·rfl
   ·omega
  have : Inhabited Sp := ⟨Sp.zero⟩
  obtain ⟨q, hq⟩ := Deep.choose_lt each
  refine ⟨some x, l, c, (List.range l).map q, hcs, ⟨by simp, fun e he => ?_, (fun h => by cases h), fun y hy i hi j hj => ?_⟩, by simp [maxLen] at hm; omega⟩
  ·obtain ⟨i, hi, rfl⟩ := List.mem_map.1 he
   exact (hq i (List.mem_range.1 hi)).1
  ·cases hy
   rw [(hq i hi).2 j hj]
   simp [List.getD_eq_getElem?_getD, hi]
theorem open_intsW {fuel : Nat} {v : Value} {y : DataW H × List MemPlace} (h : DataW.trod enc Tryd.prog W 0 (fun _ => true) true fuel 22 [v] = some y) : ∃ a l c zs, v = .slice a l c ∧ ReadsI W a l zs ∧ l ≤ 9223372036854775807 := by
 rcases open_ints Tryd.underlying22 Tryd.underlying3 cl3 h with ⟨hcs, _⟩ | ⟨x, l, c, zs, hcs, _, hl, hm, hz, hx, hcell, hwz⟩
 ·injection hcs with hcs
  exact ⟨none, 0, 0, [], hcs, ⟨rfl, (fun _ h => by cases h), fun _ => rfl, fun _ h => by cases h⟩, by omega⟩
 ·injection hcs with hcs
  have hz' : zs.length = c := by simpa using hz
  refine ⟨some x, l, c, zs.take l, hcs, ⟨by simp; omega, fun n hn => bounds_i64 (hwz n (List.mem_of_mem_take hn)), (fun h => by cases h), fun y hy i hi => ?_⟩, by simp [maxLen] at hm; omega⟩
  cases hy
  rw [hcell i (by omega)]
  simp [List.getD, hi]
end
end Go.Proofs.YtnmnhgagnfodhaaDoor.Cp
namespace Go.Proofs.YtnmnhgagnfodhaaDoor.imageChip
open Go.ChangeShapes Go.WideShapes Go.ChangeAt Go.RowKit Go.Joins Go.Deep
set_option linter.unusedVariables false
theorem own : ownKnob Tryd.prog.godebug = none := by kernel_rfl
theorem laidOut : laidOutB Tryd.prog = true := by kernel_rfl
theorem gTab : Tryd.prog.globalNamed "shale/words.halves" = some 0 := by kernel_rfl
theorem gTabType : (Tryd.prog.globals[0]?).map (·.type) = some 127 := by kernel_rfl
theorem cells127 : Tryd.prog.cellsOf 127 = 16 := by kernel_rfl
theorem cells93 : Tryd.prog.cellsOf 93 = 1 := by kernel_rfl
theorem tabInts : ∀ i, i < 16 → ([0, 498536548, 997073096, 651767980, 1994146192, 1802195444, 1303535960, 1342533948, 3988292384, 4027552580, 3604390888, 3412177804, 2607071920, 2262029012, 2685067896, 3183342108] : List Int).getD i 0 = ((tab.getD i 0 : Nat) : Int) := by decide +kernel
theorem table {W : World} (h : laidMetH Tryd.prog Rows.imageChipRow.laid W) : Tab W := by
 have ht : Lib.TabIs Tryd.prog W "shale/words.halves" .u32 [0, 498536548, 997073096, 651767980, 1994146192, 1802195444, 1303535960, 1342533948, 3988292384, 4027552580, 3604390888, 3412177804, 2607071920, 2262029012, 2685067896, 3183342108] :=
  Lib.tabIs_of_head (rest := []) gTab gTabType Tryd.underlying127 Tryd.underlying93 cells93 cells127 h
 intro i hi
 rw [ht.cell gTab i hi, tabInts i hi]
set_option maxHeartbeats 1000000 in
set_option maxRecDepth 100000 in
theorem contract (H : Type) (enc : TypeId × Value → H) (W : World) (base : Nat) (args : Array Value) (ds gs : List (DataW H)) (before : List MemPlace)
  (hval : ∀ (j : Nat) t v, Tryd.f3.params[j]? = some t → args[j]? = some v → Value.okWide Tryd.prog W .any base t v)
  (hW : DataW.Whole enc Tryd.prog Tryd.f3.params.toList Rows.imageChipSpec.vars false W args.toList ds gs before)
  (hsz : (DataW.weightsEach Tryd.prog (Tryd.f3.params.toList ++ Rows.imageChipSpec.plain.varTypes Tryd.prog) (ds ++ gs)).all (· ≤ reachBytes) = true)
  (hL : laidMetH Tryd.prog Rows.imageChipRow.laid W) :
  Calls Tryd.prog 3 args W fun e W' => ∃ v, e = .returned v ∧ Rows.imageChipSpec.post enc Tryd.prog Tryd.f3 false true false false W args v W' := by
 have hW' := hW
 obtain ⟨pp, q, hA0, hV, rfl, hfz, hnd⟩ := hW
 have hA : DataW.TrodAll enc Tryd.prog W 0 (fun _ => true) true Tryd.f3.params.toList args.toList ds pp := hA0
 rw [Tryd.params3] at hA hval hsz
 obtain ⟨v0, vs0, d0, ds0, p0, q0, hargs, rfl, rfl, h0, r0⟩ := trodAll_cons hA
 obtain ⟨v1, vs1, d1, ds1, p1, q1, rfl, rfl, rfl, h1, r1⟩ := trodAll_cons r0
 obtain ⟨rfl, rfl, rfl⟩ := trodAll_nil r1
 obtain rfl : args = #[v0, v1] := by cases args; simp_all
 obtain ⟨rfl, rfl⟩ := trodVars_none hV
 have k0 := h0
 have lt0 : ∀ x ∈ p0, x.block < W.heap.size := by obtain ⟨m, hm⟩ := k0; exact DataW.trod_lt m _ _ _ hm
 obtain ⟨a0, l0, c0, z0, hv0, rd0, s0⟩ : ∃ a l c zs, v0 = .slice a l c ∧ Cp.ReadsI W a l zs ∧ l ≤ 9223372036854775807 := by
  obtain ⟨fuel, hf⟩ := h0
  have hc0 : v0.cells.toList = [v0] := by
   obtain ⟨q1, q2, q3, rfl⟩ := okWide_slice Tryd.underlying22 (hval 0 22 v0 rfl rfl)
   rfl
  rw [hc0] at hf
  exact Cp.open_intsW hf
 subst hv0
 have k1 := h1
 have lt1 : ∀ x ∈ p1, x.block < W.heap.size := by obtain ⟨m, hm⟩ := k1; exact DataW.trod_lt m _ _ _ hm
 obtain ⟨a1, l1, c1, z1, hv1, rd1, s1⟩ : ∃ a l c zs, v1 = .slice a l c ∧ Cp.ReadsS W a l zs ∧ l ≤ 9223372036854775807 := by
  obtain ⟨fuel, hf⟩ := h1
  have hc1 : v1.cells.toList = [v1] := by
   obtain ⟨q1, q2, q3, rfl⟩ := okWide_slice Tryd.underlying23 (hval 1 23 v1 rfl rfl)
   rfl
  rw [hc1] at hf
  exact Cp.open_stepsW hf
 subst hv1
 clear hA0
 refine (Cp.icWalk a0 l0 c0 z0 a1 l1 c1 z1 W rd0 s0 rd1 s1 (table hL)).mono fun e W' ⟨he, bel⟩ => ?_
 subst he
 exact ⟨_, rfl, _, _, _, [], _, [], hW', trodAll_mk1 (shut_bool Tryd.underlying4 _), (trodAll_cons_mk (Below.trod laidOut (by kernel_rfl) (of_decide_eq_true (by kernel_rfl)) k0 bel lt0) (trodAll_cons_mk (Below.trod laidOut (by kernel_rfl) (of_decide_eq_true (by kernel_rfl)) k1 bel lt1) trodAll_mk0)), rfl, bel.frame _, fun h => by cases h⟩
def layTab : Obj → Obj
 | .cells _ t frozen => .cells #[.int .u32 0, .int .u32 498536548, .int .u32 997073096, .int .u32 651767980, .int .u32 1994146192, .int .u32 1802195444, .int .u32 1303535960, .int .u32 1342533948, .int .u32 3988292384, .int .u32 4027552580, .int .u32 3604390888, .int .u32 3412177804, .int .u32 2607071920, .int .u32 2262029012, .int .u32 2685067896, .int .u32 3183342108] t frozen
 | o => o
theorem laid_met (os : Os) : laidMet Tryd.prog Rows.imageChipRow.laid (({ World.holding Tryd.prog os ⟨#[], #[], []⟩ with heap := (World.holding Tryd.prog os ⟨#[], #[], []⟩).heap.modify 0 layTab } : World).forCall (fun _ _ => 0) ⟨#[], #[.slice none 0 0, .slice none 0 0], []⟩).memory :=
 laidMet_of_run' 8 (by kernel_rfl) (by kernel_rfl)
theorem reads (os : Os) {H : Type} (enc : TypeId × Value → H) : ∃ places, DataW.whole enc Tryd.prog (({ World.holding Tryd.prog os ⟨#[], #[], []⟩ with heap := (World.holding Tryd.prog os ⟨#[], #[], []⟩).heap.modify 0 layTab } : World).forCall (fun _ _ => 0) ⟨#[], #[.slice none 0 0, .slice none 0 0], []⟩).memory Tryd.f3.params.toList Rows.imageChipSpec.vars false (#[.slice none 0 0, .slice none 0 0] : Array Value).toList 8 = some ([.nil, .nil], [], places) :=
 ⟨[], by kernel_rfl⟩
set_option maxRecDepth 100000 in
theorem lifted (os : Os) (started : os.Started) (H : Type) (enc : TypeId × Value → H) (F : Stop.Interp) :
  ReturnsInHanded {} Tryd.checked os 3 .any ((OpenSpec.ofChange Rows.imageChipSpec).preRow enc Tryd.prog Tryd.f3 Rows.imageChipRow.domain false Rows.imageChipRow.laid) (((OpenSpec.ofChange Rows.imageChipSpec).at F).post enc Tryd.prog Tryd.f3 false true false false) := by
 obtain ⟨places, hx⟩ := reads os enc
 refine returnsInHanded_of_row (C := Tryd.checked) (s := OpenSpec.ofChange Rows.imageChipSpec) own started (by kernel_rfl) Tryd.func3
  (witness_row_at (enc := enc) (C := Tryd.checked) false ({ World.holding Tryd.prog os ⟨#[], #[], []⟩ with heap := (World.holding Tryd.prog os ⟨#[], #[], []⟩).heap.modify 0 layTab } : World) #[.slice none 0 0, .slice none 0 0] rfl (by kernel_rfl) (by kernel_rfl) (by kernel_rfl)
   (OpenSpec.preRow_of_cond 8 hx (by kernel_rfl) (fun k hk => by cases hk) (by kernel_rfl) (laid_met os))) ?_
 intro W base args ds gs before hval hW _ _ hsz hL _ _
 exact contract H enc W base args ds gs before hval hW hsz hL
theorem said : Rows.ImageChipSaid :=
 OpenClaim.holds_of_cond 3 Tryd.f3 rfl rfl rfl rfl rfl rfl rfl ⟨rfl, rfl, rfl, rfl, rfl⟩ rfl rfl rfl rfl rfl (by kernel_rfl) Tryd.func3 (by kernel_rfl)
  (of_decide_eq_true (by kernel_rfl)) (by unfold Func.isWrapper; first | (rw [if_pos (by decide +kernel)]; kernel_rfl) | (rw [if_neg (by decide +kernel)]; exact ⟨rfl, rfl⟩))
  (fun os started H enc _ F => by rw [OpenClaim.pre_eq_preRow]; exact lifted os started H enc F)
theorem plain (f : FuncId) (fn : Func) (hf : Tryd.pinned.checked.prog.funcNamed "shale/shalelaw20.ImageChip" = some f) (hfn : Tryd.pinned.checked.prog.funcs[f]? = some fn) :
  false = Tryd.pinned.checked.prog.looks [] ∧ ∀ (j : Nat) t, fn.params[j]? = some t → Tryd.pinned.checked.prog.wantsStandIn t = false := by
 obtain rfl : f = 3 := Option.some.inj ((show Tryd.prog.funcNamed "shale/shalelaw20.ImageChip" = some 3 by kernel_rfl).symm.trans hf) |>.symm
 obtain rfl : fn = Tryd.f3 := (Option.some.inj (Tryd.func3.symm.trans hfn)).symm
 refine ⟨by kernel_rfl, fun j t ht => ?_⟩
 rw [Tryd.params3] at ht
 have hm : t = 22 ∨ t = 23 := by simpa using Array.mem_of_getElem? ht
 rcases hm with rfl | rfl
 ·exact (show Tryd.prog.wantsStandIn 22 = false by kernel_rfl)
 ·exact (show Tryd.prog.wantsStandIn 23 = false by kernel_rfl)
end Go.Proofs.YtnmnhgagnfodhaaDoor.imageChip
namespace Go.Proofs.YtnmnhgagnfodhaaDoor
theorem imageChip_card : Rows.ImageChipCardSaid :=
 Claim7.holds_tied_plain_at .later [] _ _ _ _ imageChip.said (fun _ h => by cases h) (by kernel_rfl) (fun _ h => by cases h) imageChip_row_tie rfl ⟨rfl, rfl⟩ (by kernel_rfl) rfl imageChip.plain (by kernel_rfl)
#print axioms imageChip_card
end Go.Proofs.YtnmnhgagnfodhaaDoor
