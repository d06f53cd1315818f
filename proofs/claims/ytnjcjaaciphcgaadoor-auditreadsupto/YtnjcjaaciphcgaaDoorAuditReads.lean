/-
  SEAT YtnjcjaaciphcgaaDoor: AuditReads, where what it reads is small.
-/
import Derived.Test.YtnjcjaaciphcgaaDoorXd
import Derived.Test.YtnjcjaaciphcgaaDoorOg
import Derived.Test.YtnjcjaaciphcgaaDoorCards
import Derived.Test.YtnjcjaaciphcgaaDoorTie
import Derived.ProofKit
import Derived.OpenShut
import Derived.ShutString
import Derived.ChangeOld
import Derived.SizedLaws
import Derived.Deep.DeepHandedRow
import Derived.Lib.LaidTab
import Derived.Lib.SmallJoins
namespace Go.Proofs.YtnjcjaaciphcgaaDoor.auditReads
open Go.ChangeMaps (open_string)
open Go.ChangeShapes Go.WideShapes Go.ChangeAt Go.RowKit Go.Joins Go.Deep
set_option linter.unusedVariables false

theorem gAcc : Tryd.prog.globalNamed "unicode/utf8.acceptRanges" = some 8 := by kernel_rfl
theorem size9 {W : World} {x : DataW Unit} {rest : List (String × DataW Unit)} (h : laidMet Tryd.prog (("unicode/utf8.acceptRanges", x) :: rest) W) : 9 ≤ W.heap.size := by
  obtain ⟨ps, ⟨g', t', cs, fuel, p, q, hg', ht', hvar, hd, _, _⟩, _⟩ := h
  unfold World.var? at hvar
  simp only [gAcc, Option.bind_some] at hvar
  rcases Nat.lt_or_ge 8 W.heap.size with h' | h'
  · exact h'
  · rw [Array.getElem?_eq_none h'] at hvar; simp at hvar
theorem star : "*" ++ "errors.errorString" = "*errors.errorString" := by decide
theorem row129 (u : TypeId) (h : Tryd.prog.typeName? 3 u = some "*errors.errorString") : u = 129 :=
  typeName_ptr_named (nm := "errors.errorString") (by rw [star]; kernel_rfl) (by kernel_rfl) (by decide) u (by rw [star]; exact h)
theorem synType : (Tryd.prog.globals[5]?).map (·.type) = some 48 := by kernel_rfl
theorem ranType : (Tryd.prog.globals[6]?).map (·.type) = some 48 := by kernel_rfl
theorem cells131 : Tryd.prog.cellsOf 131 = 1 := by kernel_rfl
theorem tables {W : World} (h : laidMetH Tryd.prog Rows.auditReadsUptoRow.laid W) : P10 W ∧ KW W ∧ EV W ∧ 9 ≤ W.heap.size := by
  have h0 : laidMet Tryd.prog Rows.auditReadsUptoRow.laid W := h
  have h2 := h0.tail.tail
  have h3 := h2.tail
  have h4 := h3.tail
  have h5 := h4.tail
  have h6 := h5.tail
  obtain ⟨a1, s1, v1, _⟩ := laid_sentinel h4 gRan ranType Tryd.underlying48 row129 Tryd.underlying129 Tryd.underlying131 rfl rfl Tryd.underlying9 cells131 cells9
  obtain ⟨a2, s2, v2, _⟩ := laid_sentinel h5 gSyn synType Tryd.underlying48 row129 Tryd.underlying129 Tryd.underlying131 rfl rfl Tryd.underlying9 cells131 cells9
  exact ⟨p10_of h2, kw_of h6, ⟨⟨_, _, v2⟩, ⟨_, _, v1⟩⟩, size9 h3⟩

set_option maxHeartbeats 1000000 in
set_option maxRecDepth 100000 in
theorem contract (H : Type) (enc : TypeId × Value → H) (W : World) (base : Nat) (args : Array Value) (ds gs : List (DataW H)) (before : List MemPlace)
    (hval : ∀ (j : Nat) t v, Tryd.f4.params[j]? = some t → args[j]? = some v → Value.okWide Tryd.prog W .any base t v)
    (hW : DataW.Whole enc Tryd.prog Tryd.f4.params.toList Rows.auditReadsSpec.vars false W args.toList ds gs before)
    (hL : laidMetH Tryd.prog Rows.auditReadsUptoRow.laid W) (hk : Rows.uptoSmall H (ds ++ gs) = true) :
    Calls Tryd.prog 4 args W fun e W' => ∃ v, e = .returned v ∧ Rows.auditReadsSpec.post enc Tryd.prog Tryd.f4 false true false false W args v W' := by
  have hW' := hW
  obtain ⟨pp, q, hA0, hV, rfl, hfz, hnd⟩ := hW
  have hA : DataW.TrodAll enc Tryd.prog W 0 (fun _ => true) true Tryd.f4.params.toList args.toList ds pp := hA0
  rw [Tryd.params4] at hA hval
  obtain ⟨v0, vs0, d0, ds0, p0, q0, hargs, rfl, rfl, h0, r0⟩ := trodAll_cons hA
  obtain ⟨v1, vs1, d1, ds1, p1, q1, rfl, rfl, rfl, h1, r1⟩ := trodAll_cons r0
  obtain ⟨rfl, rfl, rfl⟩ := trodAll_nil r1
  obtain rfl : args = #[v0, v1] := by cases args; simp_all
  obtain ⟨rfl, rfl⟩ := trodVars_none hV
  have k0 := h0
  have lt0 : ∀ x ∈ p0, x.block < W.heap.size := by obtain ⟨m, hm⟩ := k0; exact DataW.trod_lt m _ _ _ hm
  obtain ⟨s0, rfl, rfl, rfl, _⟩ := open_string Tryd.underlying9 (hval 0 9 v0 rfl rfl) h0
  have b0 : s0.data.toList.length ≤ 1048576 := by
    have h8 := Nat.le_trans (bulk_mem _ (DataW.lit (.string s0.data.toList)) (by simp)) (of_decide_eq_true hk)
    simp only [Rows.uptoBulk] at h8
    omega
  have e0 : Value.string s0 = Value.string ⟨s0.data.toList.toArray⟩ := by cases s0; simp
  have k1 := h1
  have lt1 : ∀ x ∈ p1, x.block < W.heap.size := by obtain ⟨m, hm⟩ := k1; exact DataW.trod_lt m _ _ _ hm
  obtain ⟨s1, rfl, rfl, rfl, _⟩ := open_string Tryd.underlying9 (hval 1 9 v1 rfl rfl) h1
  have b1 : s1.data.toList.length ≤ 1048576 := by
    have h8 := Nat.le_trans (bulk_mem _ (DataW.lit (.string s1.data.toList)) (by simp)) (of_decide_eq_true hk)
    simp only [Rows.uptoBulk] at h8
    omega
  have e1 : Value.string s1 = Value.string ⟨s1.data.toList.toArray⟩ := by cases s1; simp
  clear hA0
  have hst0 := e0
  have hst1 := e1
  refine (readsWalk s0.data.toList s1.data.toList W b0 b1 (tables hL).1 (tables hL).2.1 (tables hL).2.2.1 (tables hL).2.2.2).mono fun e W' ⟨he, bel⟩ => ?_
  subst he
  exact ⟨_, rfl, _, _, _, [], _, [], hW', trodAll_mk1 (shut_bool Tryd.underlying4 _), (trodAll_cons_mk (Below.trod laidOut (by kernel_rfl) (of_decide_eq_true (by kernel_rfl)) k0 bel lt0) (trodAll_cons_mk (Below.trod laidOut (by kernel_rfl) (of_decide_eq_true (by kernel_rfl)) k1 bel lt1) trodAll_mk0)), rfl, bel.frame _, fun h => by cases h⟩

/-- What the text lays, into a table's block. -/
def layTab (cs : Array Value) : Obj → Obj
  | .cells _ t frozen => .cells cs t frozen
  | o => o
def tk : Array Value := #[.string ⟨#[]⟩, .string ⟨#[98, 114, 111, 107, 101, 110]⟩, .string ⟨#[102, 105, 120, 101, 100]⟩, .string ⟨#[115, 116, 97, 108, 101]⟩, .string ⟨#[114, 101, 102, 117, 115, 101, 100]⟩, .string ⟨#[112, 104, 97, 110, 116, 111, 109]⟩, .string ⟨#[108, 111, 115, 116]⟩, .string ⟨#[116, 119, 105, 99, 101]⟩, .string ⟨#[117, 110, 108, 105, 110, 107, 101, 100]⟩, .string ⟨#[98, 97, 100]⟩]
def tp : Array Value := #[.int .u64 1, .int .u64 10, .int .u64 100, .int .u64 1000, .int .u64 10000, .int .u64 100000, .int .u64 1000000, .int .u64 10000000, .int .u64 100000000, .int .u64 1000000000, .int .u64 10000000000, .int .u64 100000000000, .int .u64 1000000000000, .int .u64 10000000000000, .int .u64 100000000000000, .int .u64 1000000000000000, .int .u64 10000000000000000, .int .u64 100000000000000000, .int .u64 1000000000000000000, .int .u64 10000000000000000000]
def t32 : Array Value := #[.int .u8 0, .int .u8 1, .int .u8 28, .int .u8 2, .int .u8 29, .int .u8 14, .int .u8 24, .int .u8 3, .int .u8 30, .int .u8 22, .int .u8 20, .int .u8 15, .int .u8 25, .int .u8 17, .int .u8 4, .int .u8 8, .int .u8 31, .int .u8 27, .int .u8 13, .int .u8 23, .int .u8 21, .int .u8 19, .int .u8 16, .int .u8 7, .int .u8 26, .int .u8 12, .int .u8 18, .int .u8 6, .int .u8 11, .int .u8 5, .int .u8 10, .int .u8 9]
def t64 : Array Value := #[.int .u8 0, .int .u8 1, .int .u8 56, .int .u8 2, .int .u8 57, .int .u8 49, .int .u8 28, .int .u8 3, .int .u8 61, .int .u8 58, .int .u8 42, .int .u8 50, .int .u8 38, .int .u8 29, .int .u8 17, .int .u8 4, .int .u8 62, .int .u8 47, .int .u8 59, .int .u8 36, .int .u8 45, .int .u8 43, .int .u8 51, .int .u8 22, .int .u8 53, .int .u8 39, .int .u8 33, .int .u8 30, .int .u8 24, .int .u8 18, .int .u8 12, .int .u8 5, .int .u8 63, .int .u8 55, .int .u8 48, .int .u8 27, .int .u8 60, .int .u8 41, .int .u8 37, .int .u8 16, .int .u8 46, .int .u8 35, .int .u8 44, .int .u8 21, .int .u8 52, .int .u8 32, .int .u8 23, .int .u8 11, .int .u8 54, .int .u8 26, .int .u8 40, .int .u8 15, .int .u8 34, .int .u8 20, .int .u8 31, .int .u8 10, .int .u8 25, .int .u8 14, .int .u8 19, .int .u8 9, .int .u8 13, .int .u8 8, .int .u8 7, .int .u8 6]
def ta : Array Value := #[.int .u8 128, .int .u8 191, .int .u8 160, .int .u8 191, .int .u8 128, .int .u8 159, .int .u8 144, .int .u8 191, .int .u8 128, .int .u8 143, .int .u8 0, .int .u8 0, .int .u8 0, .int .u8 0, .int .u8 0, .int .u8 0, .int .u8 0, .int .u8 0, .int .u8 0, .int .u8 0, .int .u8 0, .int .u8 0, .int .u8 0, .int .u8 0, .int .u8 0, .int .u8 0, .int .u8 0, .int .u8 0, .int .u8 0, .int .u8 0, .int .u8 0, .int .u8 0]
def tf : Array Value := (Go.Pinned.utf8FirstZ.map fun z : Nat => Value.int .u8 (z : Int)).toArray
noncomputable def low : Nat := (World.holding Tryd.prog default ⟨#[], #[], []⟩).heap.size
def errs : Array Obj := #[.cells #[.string ⟨#[118, 97, 108, 117, 101, 32, 111, 117, 116, 32, 111, 102, 32, 114, 97, 110, 103, 101]⟩] 131, .cells #[.string ⟨#[105, 110, 118, 97, 108, 105, 100, 32, 115, 121, 110, 116, 97, 120]⟩] 131]
theorem laid_met (os : Os) : laidMet Tryd.prog Rows.auditReadsUptoRow.laid (({ (World.holding Tryd.prog os ⟨errs, #[], []⟩) with heap := (((((((((World.holding Tryd.prog os ⟨errs, #[], []⟩).heap.modify 0 (layTab tk)).modify 1 (layTab tp)).modify 3 (layTab t32)).modify 4 (layTab t64)).modify 5 (layTab #[.iface 129 (.pointer (some ⟨low + 1, 0, none⟩))])).modify 6 (layTab #[.iface 129 (.pointer (some ⟨low, 0, none⟩))])).modify 7 (layTab tf)).modify 8 (layTab ta)) } : World).forCall (fun _ _ => 0) ⟨#[], #[.string ⟨#[]⟩, .string ⟨#[]⟩], []⟩).memory :=
  laidMet_of_run' 8 (by kernel_rfl) (by kernel_rfl)
theorem reads (os : Os) {H : Type} (enc : TypeId × Value → H) : ∃ places, DataW.whole enc Tryd.prog (({ (World.holding Tryd.prog os ⟨errs, #[], []⟩) with heap := (((((((((World.holding Tryd.prog os ⟨errs, #[], []⟩).heap.modify 0 (layTab tk)).modify 1 (layTab tp)).modify 3 (layTab t32)).modify 4 (layTab t64)).modify 5 (layTab #[.iface 129 (.pointer (some ⟨low + 1, 0, none⟩))])).modify 6 (layTab #[.iface 129 (.pointer (some ⟨low, 0, none⟩))])).modify 7 (layTab tf)).modify 8 (layTab ta)) } : World).forCall (fun _ _ => 0) ⟨#[], #[.string ⟨#[]⟩, .string ⟨#[]⟩], []⟩).memory Tryd.f4.params.toList Rows.auditReadsSpec.vars false (#[.string ⟨#[]⟩, .string ⟨#[]⟩] : Array Value).toList 8 = some ([.lit (.string []), .lit (.string [])], [], places) :=
  ⟨[], by kernel_rfl⟩

set_option maxRecDepth 100000 in
theorem lifted (os : Os) (started : os.Started) (H : Type) (enc : TypeId × Value → H) (F : Stop.Interp) :
    ReturnsInHanded {} Tryd.checked os 4 .any ((Rows.OpenSpec.upto Rows.auditReadsSpec).preRow enc Tryd.prog Tryd.f4 Rows.auditReadsUptoRow.domain false Rows.auditReadsUptoRow.laid) (((Rows.OpenSpec.upto Rows.auditReadsSpec).at F).post enc Tryd.prog Tryd.f4 false true false false) := by
  obtain ⟨places, hx⟩ := reads os enc
  refine returnsInHanded_of_row (C := Tryd.checked) (s := Rows.OpenSpec.upto Rows.auditReadsSpec) own started (by kernel_rfl) Tryd.func4
    (witness_row_at (enc := enc) (C := Tryd.checked) false ({ (World.holding Tryd.prog os ⟨errs, #[], []⟩) with heap := (((((((((World.holding Tryd.prog os ⟨errs, #[], []⟩).heap.modify 0 (layTab tk)).modify 1 (layTab tp)).modify 3 (layTab t32)).modify 4 (layTab t64)).modify 5 (layTab #[.iface 129 (.pointer (some ⟨low + 1, 0, none⟩))])).modify 6 (layTab #[.iface 129 (.pointer (some ⟨low, 0, none⟩))])).modify 7 (layTab tf)).modify 8 (layTab ta)) } : World) #[.string ⟨#[]⟩, .string ⟨#[]⟩] rfl (by kernel_rfl) (by kernel_rfl) (by kernel_rfl)
      (OpenSpec.preRow_of_cond 8 hx (by kernel_rfl) (fun k hk => by cases hk; kernel_rfl) (by kernel_rfl) (laid_met os))) ?_
  intro W base args ds gs before hval hW _ hcnd hsz hL _ _
  exact contract H enc W base args ds gs before hval hW hL (hcnd _ rfl)

theorem said : Rows.AuditReadsUptoSaid :=
  OpenClaim.holds_of_cond 4 Tryd.f4 rfl rfl rfl rfl rfl rfl rfl ⟨rfl, rfl, rfl, rfl, rfl⟩ rfl rfl rfl rfl rfl (by kernel_rfl) Tryd.func4 (by kernel_rfl)
    (of_decide_eq_true (by kernel_rfl)) (by unfold Func.isWrapper; first | (rw [if_pos (by decide +kernel)]; kernel_rfl) | (rw [if_neg (by decide +kernel)]; exact ⟨rfl, rfl⟩))
    (fun os started H enc _ F => by rw [OpenClaim.pre_eq_preRow]; exact lifted os started H enc F)

theorem plain (f : FuncId) (fn : Func) (hf : Tryd.pinned.checked.prog.funcNamed "shale/shalelaw19.AuditReads" = some f) (hfn : Tryd.pinned.checked.prog.funcs[f]? = some fn) :
    true = Tryd.pinned.checked.prog.looks [] ∧ ∀ (j : Nat) t, fn.params[j]? = some t → Tryd.pinned.checked.prog.wantsStandIn t = false := by
  obtain rfl : f = 4 := Option.some.inj ((show Tryd.prog.funcNamed "shale/shalelaw19.AuditReads" = some 4 by kernel_rfl).symm.trans hf) |>.symm
  obtain rfl : fn = Tryd.f4 := (Option.some.inj (Tryd.func4.symm.trans hfn)).symm
  refine ⟨by kernel_rfl, fun j t ht => ?_⟩
  rw [Tryd.params4] at ht
  obtain rfl : t = 9 := by simpa using Array.mem_of_getElem? ht
  exact (show Tryd.prog.wantsStandIn 9 = false by kernel_rfl)
end Go.Proofs.YtnjcjaaciphcgaaDoor.auditReads
namespace Go.Proofs.YtnjcjaaciphcgaaDoor
theorem auditReadsUpto_card : Rows.AuditReadsUptoCardSaid :=
  Claim7.holds_tied_plain_at .later [] _ _ _ _ auditReads.said (fun _ h => by cases h) (by kernel_rfl) (fun _ h => by cases h) auditReadsUpto_row_tie rfl ⟨rfl, rfl⟩ (by kernel_rfl) rfl auditReads.plain (by kernel_rfl)
#print axioms auditReadsUpto_card
end Go.Proofs.YtnjcjaaciphcgaaDoor
