/-
  NARROWER THAN 'FOR EVERY INPUT', by the rows' own cells (each row's printed sentence says how): TagsReads: laid · TagsPacks: laid · TagsLifts: laid · TagsWider: laid · TagsBack: laid.
  DERIVED. THE GIVEN ROWS OF THIS SEAT. 5 by the template 'for every input the law returns true; each argument reads behind the call as it read before'; 0 by the template 'total and deterministic' (their statements: YtgdmagmbkmgdfaaDoorTotals.lean).
  GIVEN WITH THE SEED: the statements are not yours to turn. If you find one false, say at which input.
  Laid BY PROGRAM, IN A SANDBOX (cutbox-rows.mjs): the forced cells as the released guide's own fill.sh prints them over the translation dd371070c73b6d9a… (all of the seat's roots in one cut). By AI agents, Wed Nov 11 2026. No macro, syntax, notation, axiom, sorry.
-/
import Derived.Test.YtgdmagmbkmgdfaaDoorChecked
import GoSem.Claim
import GoSem.ClaimJoined
import GoSem.ClaimMapViews
import Derived.JoinedTies
import Derived.KernelRfl
namespace Go.Proofs.YtgdmagmbkmgdfaaDoor
/- THE CELL 'sum', in the pinned program and in every row, IS THE sha256 OF THE DUMP (.gsa) THAT YtgdmagmbkmgdfaaDoorProg.lean LOADS. Nothing in Lean hashes anything: it is a label: what it is worth is what the hold of that sum in a sandbox is worth. -/
noncomputable def Tryd.pinned : Pinned := { name := "ytgdmagmbkmgdfaadoor", sum := "dd371070c73b6d9a9dbf7e911cb367f08ba62e73aff03ad95c02513ef45016cf", checked := Tryd.checked }
namespace Rows
def none {H : Type} : Left H := { results := [], args := [] }

/- WHAT THE LISTED PACKAGE-LEVEL VARIABLES READ AS WHEN THE CALL BEGINS. Each datum BY PROGRAM (the guide's laid-datum.mjs) off the statement by which the dump's own 'gosem.cut.vars' lays the variable. In a bare row this is a premise. The card (YtgdmagmbkmgdfaaDoorCards.lean) ties it to the program's text. -/
def laid_shale_tags_stretches {H : Type} : DataW H := .agg [.agg [.lit (.int .i64 0), .lit (.int .i64 1)], .agg [.lit (.int .i64 1), .lit (.int .i64 1)], .agg [.lit (.int .i64 2), .lit (.int .i64 6)], .agg [.lit (.int .i64 8), .lit (.int .i64 6)], .agg [.lit (.int .i64 14), .lit (.int .i64 4)], .agg [.lit (.int .i64 18), .lit (.int .i64 4)], .agg [.lit (.int .i64 22), .lit (.int .i64 2)], .agg [.lit (.int .i64 24), .lit (.int .i64 2)]]

/-- 'shalelaw06.TagsReads': WHATEVER THE INPUT: true; the input reads as it did. -/
def tagsReadsSpec : ChangeSpec := { name := "tagsReads", fn := fun _ => fun
  | [d] => { results := [.lit (.bool true)], args := [d] }
  | _ => none }
def tagsReadsRow : OpenClaim := { program := "ytgdmagmbkmgdfaadoor", sum := "dd371070c73b6d9a9dbf7e911cb367f08ba62e73aff03ad95c02513ef45016cf", func := "shale/shalelaw06.TagsReads", spec := "tagsReads", named := ["shale/tags.stretches"], apart := false, laid := [("shale/tags.stretches", laid_shale_tags_stretches)] }
def TagsReadsSaid : Prop := tagsReadsRow.holds Tryd.pinned (OpenSpec.ofChange tagsReadsSpec)

/-- ITS FALSE NEIGHBOUR: 'it returns false'. Refute it at one input. -/
def tagsReadsWrong : ChangeSpec := { name := "tagsReads", fn := fun _ => fun
  | [d] => { results := [.lit (.bool false)], args := [d] }
  | _ => none }
def TagsReadsWrongFalsely : Prop := tagsReadsRow.holds Tryd.pinned (OpenSpec.ofChange tagsReadsWrong)

/-- 'shalelaw06.TagsPacks': WHATEVER THE INPUT: true; the input reads as it did. -/
def tagsPacksSpec : ChangeSpec := { name := "tagsPacks", fn := fun _ => fun
  | [d] => { results := [.lit (.bool true)], args := [d] }
  | _ => none }
def tagsPacksRow : OpenClaim := { program := "ytgdmagmbkmgdfaadoor", sum := "dd371070c73b6d9a9dbf7e911cb367f08ba62e73aff03ad95c02513ef45016cf", func := "shale/shalelaw06.TagsPacks", spec := "tagsPacks", named := ["shale/tags.stretches"], apart := false, laid := [("shale/tags.stretches", laid_shale_tags_stretches)] }
def TagsPacksSaid : Prop := tagsPacksRow.holds Tryd.pinned (OpenSpec.ofChange tagsPacksSpec)

/-- ITS FALSE NEIGHBOUR: 'it returns false'. Refute it at one input. -/
def tagsPacksWrong : ChangeSpec := { name := "tagsPacks", fn := fun _ => fun
  | [d] => { results := [.lit (.bool false)], args := [d] }
  | _ => none }
def TagsPacksWrongFalsely : Prop := tagsPacksRow.holds Tryd.pinned (OpenSpec.ofChange tagsPacksWrong)

/-- 'shalelaw06.TagsLifts': WHATEVER THE INPUT: true; the input reads as it did. -/
def tagsLiftsSpec : ChangeSpec := { name := "tagsLifts", fn := fun _ => fun
  | [d] => { results := [.lit (.bool true)], args := [d] }
  | _ => none }
def tagsLiftsRow : OpenClaim := { program := "ytgdmagmbkmgdfaadoor", sum := "dd371070c73b6d9a9dbf7e911cb367f08ba62e73aff03ad95c02513ef45016cf", func := "shale/shalelaw06.TagsLifts", spec := "tagsLifts", named := ["shale/tags.stretches"], apart := false, laid := [("shale/tags.stretches", laid_shale_tags_stretches)] }
def TagsLiftsSaid : Prop := tagsLiftsRow.holds Tryd.pinned (OpenSpec.ofChange tagsLiftsSpec)

/-- ITS FALSE NEIGHBOUR: 'it returns false'. Refute it at one input. -/
def tagsLiftsWrong : ChangeSpec := { name := "tagsLifts", fn := fun _ => fun
  | [d] => { results := [.lit (.bool false)], args := [d] }
  | _ => none }
def TagsLiftsWrongFalsely : Prop := tagsLiftsRow.holds Tryd.pinned (OpenSpec.ofChange tagsLiftsWrong)

/-- 'shalelaw06.TagsWider': WHATEVER THE INPUT: true; the input reads as it did. -/
def tagsWiderSpec : ChangeSpec := { name := "tagsWider", fn := fun _ => fun
  | [d1, d2, d3] => { results := [.lit (.bool true)], args := [d1, d2, d3] }
  | _ => none }
def tagsWiderRow : OpenClaim := { program := "ytgdmagmbkmgdfaadoor", sum := "dd371070c73b6d9a9dbf7e911cb367f08ba62e73aff03ad95c02513ef45016cf", func := "shale/shalelaw06.TagsWider", spec := "tagsWider", named := ["shale/tags.stretches"], apart := false, laid := [("shale/tags.stretches", laid_shale_tags_stretches)] }
def TagsWiderSaid : Prop := tagsWiderRow.holds Tryd.pinned (OpenSpec.ofChange tagsWiderSpec)

/-- ITS FALSE NEIGHBOUR: 'it returns false'. Refute it at one input. -/
def tagsWiderWrong : ChangeSpec := { name := "tagsWider", fn := fun _ => fun
  | [d1, d2, d3] => { results := [.lit (.bool false)], args := [d1, d2, d3] }
  | _ => none }
def TagsWiderWrongFalsely : Prop := tagsWiderRow.holds Tryd.pinned (OpenSpec.ofChange tagsWiderWrong)

/-- 'shalelaw06.TagsBack': WHATEVER THE INPUT: true; the input reads as it did. -/
def tagsBackSpec : ChangeSpec := { name := "tagsBack", fn := fun _ => fun
  | [d1, d2, d3] => { results := [.lit (.bool true)], args := [d1, d2, d3] }
  | _ => none }
def tagsBackRow : OpenClaim := { program := "ytgdmagmbkmgdfaadoor", sum := "dd371070c73b6d9a9dbf7e911cb367f08ba62e73aff03ad95c02513ef45016cf", func := "shale/shalelaw06.TagsBack", spec := "tagsBack", named := ["shale/tags.stretches"], apart := false, laid := [("shale/tags.stretches", laid_shale_tags_stretches)] }
def TagsBackSaid : Prop := tagsBackRow.holds Tryd.pinned (OpenSpec.ofChange tagsBackSpec)

/-- ITS FALSE NEIGHBOUR: 'it returns false'. Refute it at one input. -/
def tagsBackWrong : ChangeSpec := { name := "tagsBack", fn := fun _ => fun
  | [d1, d2, d3] => { results := [.lit (.bool false)], args := [d1, d2, d3] }
  | _ => none }
def TagsBackWrongFalsely : Prop := tagsBackRow.holds Tryd.pinned (OpenSpec.ofChange tagsBackWrong)

/- THE SECOND FORM. 'bulk': how many values and letters a reading holds, each counted each time it is reached (what is shared counts as often as it is met; a slice's spare places count too). A statement '..UptoSaid' is the law's where the arguments, and the package variables that the reading takes, are together of bulk at most 1048576: NARROWER than '..Said'. Prove '..Said' where nothing that the law and all that it calls make is longer than what came in: it says more and counts as full. Else prove '..UptoSaid'. A law counts once. -/
mutual
def uptoBulk {H : Type} : DataW H → Nat
  | .lit (.string bytes) => bytes.length + 1
  | .lit _ => 1
  | .nil => 1
  | .ptr d => uptoBulk d + 1
  | .slice elems spare => uptoBulkAll elems + uptoBulkAll spare + 1
  | .agg parts => uptoBulkAll parts + 1
  | .iface _ d => uptoBulk d + 1
  | .map entries => uptoBulkEntries entries + 1
  | .held _ => 1
def uptoBulkAll {H : Type} : List (DataW H) → Nat
  | [] => 0
  | d :: r => uptoBulk d + uptoBulkAll r
def uptoBulkEntries {H : Type} : List (Lit × DataW H) → Nat
  | [] => 0
  | x :: r => uptoBulkEntry x + uptoBulkEntries r
def uptoBulkEntry {H : Type} : Lit × DataW H → Nat
  | (.string bytes, d) => bytes.length + uptoBulk d + 1
  | (_, d) => uptoBulk d + 1
 end
def uptoSmall : (H : Type) → List (DataW H) → Bool := fun _ ds => decide (uptoBulkAll ds ≤ 1048576)
def OpenSpec.upto (s : _root_.Go.ChangeSpec) : _root_.Go.OpenSpec := { _root_.Go.OpenSpec.ofChange s with cond := some uptoSmall }

/-- 'shalelaw06.TagsReads', WHERE WHAT IT READS IS OF BULK AT MOST 1048576: true; the input reads as it did. -/
def tagsReadsUptoRow : OpenClaim := { program := "ytgdmagmbkmgdfaadoor", sum := "dd371070c73b6d9a9dbf7e911cb367f08ba62e73aff03ad95c02513ef45016cf", func := "shale/shalelaw06.TagsReads", spec := "tagsReads", named := ["shale/tags.stretches"], apart := false, laid := [("shale/tags.stretches", laid_shale_tags_stretches)], narrowed := true }
def TagsReadsUptoSaid : Prop := tagsReadsUptoRow.holds Tryd.pinned (OpenSpec.upto tagsReadsSpec)

/-- 'shalelaw06.TagsPacks', WHERE WHAT IT READS IS OF BULK AT MOST 1048576: true; the input reads as it did. -/
def tagsPacksUptoRow : OpenClaim := { program := "ytgdmagmbkmgdfaadoor", sum := "dd371070c73b6d9a9dbf7e911cb367f08ba62e73aff03ad95c02513ef45016cf", func := "shale/shalelaw06.TagsPacks", spec := "tagsPacks", named := ["shale/tags.stretches"], apart := false, laid := [("shale/tags.stretches", laid_shale_tags_stretches)], narrowed := true }
def TagsPacksUptoSaid : Prop := tagsPacksUptoRow.holds Tryd.pinned (OpenSpec.upto tagsPacksSpec)

/-- 'shalelaw06.TagsLifts', WHERE WHAT IT READS IS OF BULK AT MOST 1048576: true; the input reads as it did. -/
def tagsLiftsUptoRow : OpenClaim := { program := "ytgdmagmbkmgdfaadoor", sum := "dd371070c73b6d9a9dbf7e911cb367f08ba62e73aff03ad95c02513ef45016cf", func := "shale/shalelaw06.TagsLifts", spec := "tagsLifts", named := ["shale/tags.stretches"], apart := false, laid := [("shale/tags.stretches", laid_shale_tags_stretches)], narrowed := true }
def TagsLiftsUptoSaid : Prop := tagsLiftsUptoRow.holds Tryd.pinned (OpenSpec.upto tagsLiftsSpec)

/-- 'shalelaw06.TagsWider', WHERE WHAT IT READS IS OF BULK AT MOST 1048576: true; the input reads as it did. -/
def tagsWiderUptoRow : OpenClaim := { program := "ytgdmagmbkmgdfaadoor", sum := "dd371070c73b6d9a9dbf7e911cb367f08ba62e73aff03ad95c02513ef45016cf", func := "shale/shalelaw06.TagsWider", spec := "tagsWider", named := ["shale/tags.stretches"], apart := false, laid := [("shale/tags.stretches", laid_shale_tags_stretches)], narrowed := true }
def TagsWiderUptoSaid : Prop := tagsWiderUptoRow.holds Tryd.pinned (OpenSpec.upto tagsWiderSpec)

/-- 'shalelaw06.TagsBack', WHERE WHAT IT READS IS OF BULK AT MOST 1048576: true; the input reads as it did. -/
def tagsBackUptoRow : OpenClaim := { program := "ytgdmagmbkmgdfaadoor", sum := "dd371070c73b6d9a9dbf7e911cb367f08ba62e73aff03ad95c02513ef45016cf", func := "shale/shalelaw06.TagsBack", spec := "tagsBack", named := ["shale/tags.stretches"], apart := false, laid := [("shale/tags.stretches", laid_shale_tags_stretches)], narrowed := true }
def TagsBackUptoSaid : Prop := tagsBackUptoRow.holds Tryd.pinned (OpenSpec.upto tagsBackSpec)

end Rows
end Go.Proofs.YtgdmagmbkmgdfaaDoor
