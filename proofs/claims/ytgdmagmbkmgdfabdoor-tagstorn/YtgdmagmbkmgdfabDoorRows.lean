/-
  NARROWER THAN 'FOR EVERY INPUT', by the rows' own cells (each row's printed sentence says how): TagsTorn: laid · TagsOwn: laid.
  DERIVED. THE GIVEN ROWS OF THIS SEAT. 2 by the template 'for every input the law returns true; each argument reads behind the call as it read before'; 0 by the template 'total and deterministic' (their statements: YtgdmagmbkmgdfabDoorTotals.lean).
  GIVEN WITH THE SEED: the statements are not yours to turn. If you find one false, say at which input.
  Laid BY PROGRAM, IN A SANDBOX (cutbox-rows.mjs): the forced cells as the released guide's own fill.sh prints them over the translation ad97331b3518077e… (all of the seat's roots in one cut). By AI agents, Wed Nov 11 2026. No macro, syntax, notation, axiom, sorry.
-/
import Derived.Test.YtgdmagmbkmgdfabDoorChecked
import GoSem.Claim
import GoSem.ClaimJoined
import GoSem.ClaimMapViews
import Derived.JoinedTies
import Derived.KernelRfl
namespace Go.Proofs.YtgdmagmbkmgdfabDoor
/- THE CELL 'sum', in the pinned program and in every row, IS THE sha256 OF THE DUMP (.gsa) THAT YtgdmagmbkmgdfabDoorProg.lean LOADS. Nothing in Lean hashes anything: it is a label: what it is worth is what the hold of that sum in a sandbox is worth. -/
noncomputable def Tryd.pinned : Pinned := { name := "ytgdmagmbkmgdfabdoor", sum := "ad97331b3518077e31a34cff78c5a854b104f115eb2757f05c18b1c75fe87000", checked := Tryd.checked }
namespace Rows
def none {H : Type} : Left H := { results := [], args := [] }

/- WHAT THE LISTED PACKAGE-LEVEL VARIABLES READ AS WHEN THE CALL BEGINS. Each datum BY PROGRAM (the guide's laid-datum.mjs) off the statement by which the dump's own 'gosem.cut.vars' lays the variable. In a bare row this is a premise. The card (YtgdmagmbkmgdfabDoorCards.lean) ties it to the program's text. -/
def laid_shale_tags_stretches {H : Type} : DataW H := .agg [.agg [.lit (.int .i64 0), .lit (.int .i64 1)], .agg [.lit (.int .i64 1), .lit (.int .i64 1)], .agg [.lit (.int .i64 2), .lit (.int .i64 6)], .agg [.lit (.int .i64 8), .lit (.int .i64 6)], .agg [.lit (.int .i64 14), .lit (.int .i64 4)], .agg [.lit (.int .i64 18), .lit (.int .i64 4)], .agg [.lit (.int .i64 22), .lit (.int .i64 2)], .agg [.lit (.int .i64 24), .lit (.int .i64 2)]]

/-- 'shalelaw06.TagsTorn': WHATEVER THE INPUT: true; the input reads as it did. -/
def tagsTornSpec : ChangeSpec := { name := "tagsTorn", fn := fun _ => fun
  | [d1, d2, d3, d4, d5] => { results := [.lit (.bool true)], args := [d1, d2, d3, d4, d5] }
  | _ => none }
def tagsTornRow : OpenClaim := { program := "ytgdmagmbkmgdfabdoor", sum := "ad97331b3518077e31a34cff78c5a854b104f115eb2757f05c18b1c75fe87000", func := "shale/shalelaw06.TagsTorn", spec := "tagsTorn", named := ["shale/tags.stretches"], apart := false, laid := [("shale/tags.stretches", laid_shale_tags_stretches)] }
def TagsTornSaid : Prop := tagsTornRow.holds Tryd.pinned (OpenSpec.ofChange tagsTornSpec)

/-- ITS FALSE NEIGHBOUR: 'it returns false'. Refute it at one input. -/
def tagsTornWrong : ChangeSpec := { name := "tagsTorn", fn := fun _ => fun
  | [d1, d2, d3, d4, d5] => { results := [.lit (.bool false)], args := [d1, d2, d3, d4, d5] }
  | _ => none }
def TagsTornWrongFalsely : Prop := tagsTornRow.holds Tryd.pinned (OpenSpec.ofChange tagsTornWrong)

/-- 'shalelaw06.TagsOwn': WHATEVER THE INPUT: true; the input reads as it did. -/
def tagsOwnSpec : ChangeSpec := { name := "tagsOwn", fn := fun _ => fun
  | [d1, d2] => { results := [.lit (.bool true)], args := [d1, d2] }
  | _ => none }
def tagsOwnRow : OpenClaim := { program := "ytgdmagmbkmgdfabdoor", sum := "ad97331b3518077e31a34cff78c5a854b104f115eb2757f05c18b1c75fe87000", func := "shale/shalelaw06.TagsOwn", spec := "tagsOwn", named := ["shale/tags.stretches"], apart := false, laid := [("shale/tags.stretches", laid_shale_tags_stretches)] }
def TagsOwnSaid : Prop := tagsOwnRow.holds Tryd.pinned (OpenSpec.ofChange tagsOwnSpec)

/-- ITS FALSE NEIGHBOUR: 'it returns false'. Refute it at one input. -/
def tagsOwnWrong : ChangeSpec := { name := "tagsOwn", fn := fun _ => fun
  | [d1, d2] => { results := [.lit (.bool false)], args := [d1, d2] }
  | _ => none }
def TagsOwnWrongFalsely : Prop := tagsOwnRow.holds Tryd.pinned (OpenSpec.ofChange tagsOwnWrong)

/- THE SECOND FORM. 'bulk': how many values and letters a reading holds, each counted each time it is reached (what is shared counts as often as it is met; a slice's spare places count too). A statement '..UptoSaid' is the law's where the arguments, and the package variables that the reading takes, are together of bulk at most 1048576: NARROWER than '..Said'. Prove '..Said' where nothing that the law and all that it calls make is longer than what came in: it says more and counts as full. Else prove '..UptoSaid'. A law counts once. -/
mutual
def uptoBulk {H : Type} : DataW H → Nat
  | .lit (.string bytes) => bytes.length + 1
  | .lit _ => 1
  | .nil => 1
  | .ptr d => uptoBulk d + 1
  | .slice elems spare => uptoBulkAll elems + uptoBulkAll spare + 1
  | .agg parts => uptoBulkAll parts + 1
  | .iface _ d => uptoBulk d + 1
  | .map entries => uptoBulkEntries entries + 1
  | .held _ => 1
def uptoBulkAll {H : Type} : List (DataW H) → Nat
  | [] => 0
  | d :: r => uptoBulk d + uptoBulkAll r
def uptoBulkEntries {H : Type} : List (Lit × DataW H) → Nat
  | [] => 0
  | x :: r => uptoBulkEntry x + uptoBulkEntries r
def uptoBulkEntry {H : Type} : Lit × DataW H → Nat
  | (.string bytes, d) => bytes.length + uptoBulk d + 1
  | (_, d) => uptoBulk d + 1
 end
def uptoSmall : (H : Type) → List (DataW H) → Bool := fun _ ds => decide (uptoBulkAll ds ≤ 1048576)
def OpenSpec.upto (s : _root_.Go.ChangeSpec) : _root_.Go.OpenSpec := { _root_.Go.OpenSpec.ofChange s with cond := some uptoSmall }

/-- 'shalelaw06.TagsTorn', WHERE WHAT IT READS IS OF BULK AT MOST 1048576: true; the input reads as it did. -/
def tagsTornUptoRow : OpenClaim := { program := "ytgdmagmbkmgdfabdoor", sum := "ad97331b3518077e31a34cff78c5a854b104f115eb2757f05c18b1c75fe87000", func := "shale/shalelaw06.TagsTorn", spec := "tagsTorn", named := ["shale/tags.stretches"], apart := false, laid := [("shale/tags.stretches", laid_shale_tags_stretches)], narrowed := true }
def TagsTornUptoSaid : Prop := tagsTornUptoRow.holds Tryd.pinned (OpenSpec.upto tagsTornSpec)

/-- 'shalelaw06.TagsOwn', WHERE WHAT IT READS IS OF BULK AT MOST 1048576: true; the input reads as it did. -/
def tagsOwnUptoRow : OpenClaim := { program := "ytgdmagmbkmgdfabdoor", sum := "ad97331b3518077e31a34cff78c5a854b104f115eb2757f05c18b1c75fe87000", func := "shale/shalelaw06.TagsOwn", spec := "tagsOwn", named := ["shale/tags.stretches"], apart := false, laid := [("shale/tags.stretches", laid_shale_tags_stretches)], narrowed := true }
def TagsOwnUptoSaid : Prop := tagsOwnUptoRow.holds Tryd.pinned (OpenSpec.upto tagsOwnSpec)

end Rows
end Go.Proofs.YtgdmagmbkmgdfabDoor
