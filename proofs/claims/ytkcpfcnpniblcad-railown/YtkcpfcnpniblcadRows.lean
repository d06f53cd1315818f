/-
  No cell of these rows narrows 'for every input' (looked for: loops, veiled, ifaces, maps, wideKeys, modest, calm, conditions, laid).
  DERIVED. THE GIVEN ROWS OF THIS SEAT. 5 by the template 'for every input the law returns true; each argument reads behind the call as it read before'; 0 by the template 'total and deterministic' (their statements: YtkcpfcnpniblcadTotals.lean).
  GIVEN WITH THE SEED: the statements are not yours to turn. If you find one false, say at which input.
  Laid BY PROGRAM, IN A SANDBOX (cutbox-rows.mjs): the forced cells as the released guide's own fill.sh prints them over the translation 88dbdd021e197413… (all of the seat's roots in one cut). By AI agents, Wed Nov 11 2026. No macro, syntax, notation, axiom, sorry.
-/
import Derived.Test.YtkcpfcnpniblcadChecked
import GoSem.Claim
import GoSem.ClaimJoined
import GoSem.ClaimMapViews
import Derived.JoinedTies
import Derived.KernelRfl
namespace Go.Proofs.Ytkcpfcnpniblcad
/- THE CELL 'sum', in the pinned program and in every row, IS THE sha256 OF THE DUMP (.gsa) THAT YtkcpfcnpniblcadProg.lean LOADS. Nothing in Lean hashes anything: it is a label: what it is worth is what the hold of that sum in a sandbox is worth. -/
noncomputable def Try.pinned : Pinned := { name := "ytkcpfcnpniblcad", sum := "88dbdd021e197413fd49c6b49d73c4b147deb8ed094bc9e653307376be1a15d1", checked := Try.checked }
namespace Rows
def none {H : Type} : Left H := { results := [], args := [] }

/-- 'shalelaw03.RailFar': WHATEVER THE INPUT: true; the input reads as it did. -/
def railFarSpec : ChangeSpec := { name := "railFar", fn := fun _ => fun
  | [d1, d2] => { results := [.lit (.bool true)], args := [d1, d2] }
  | _ => none }
def railFarRow : OpenClaim := { program := "ytkcpfcnpniblcad", sum := "88dbdd021e197413fd49c6b49d73c4b147deb8ed094bc9e653307376be1a15d1", func := "shale/shalelaw03.RailFar", spec := "railFar", apart := false }
def RailFarSaid : Prop := railFarRow.holds Try.pinned (OpenSpec.ofChange railFarSpec)

/-- ITS FALSE NEIGHBOUR: 'it returns false'. Refute it at one input. -/
def railFarWrong : ChangeSpec := { name := "railFar", fn := fun _ => fun
  | [d1, d2] => { results := [.lit (.bool false)], args := [d1, d2] }
  | _ => none }
def RailFarWrongFalsely : Prop := railFarRow.holds Try.pinned (OpenSpec.ofChange railFarWrong)

/-- 'shalelaw03.RailLays': WHATEVER THE INPUT: true; the input reads as it did. -/
def railLaysSpec : ChangeSpec := { name := "railLays", fn := fun _ => fun
  | [d1, d2] => { results := [.lit (.bool true)], args := [d1, d2] }
  | _ => none }
def railLaysRow : OpenClaim := { program := "ytkcpfcnpniblcad", sum := "88dbdd021e197413fd49c6b49d73c4b147deb8ed094bc9e653307376be1a15d1", func := "shale/shalelaw03.RailLays", spec := "railLays", apart := false }
def RailLaysSaid : Prop := railLaysRow.holds Try.pinned (OpenSpec.ofChange railLaysSpec)

/-- ITS FALSE NEIGHBOUR: 'it returns false'. Refute it at one input. -/
def railLaysWrong : ChangeSpec := { name := "railLays", fn := fun _ => fun
  | [d1, d2] => { results := [.lit (.bool false)], args := [d1, d2] }
  | _ => none }
def RailLaysWrongFalsely : Prop := railLaysRow.holds Try.pinned (OpenSpec.ofChange railLaysWrong)

/-- 'shalelaw03.RailBack': WHATEVER THE INPUT: true; the input reads as it did. -/
def railBackSpec : ChangeSpec := { name := "railBack", fn := fun _ => fun
  | [d1, d2, d3] => { results := [.lit (.bool true)], args := [d1, d2, d3] }
  | _ => none }
def railBackRow : OpenClaim := { program := "ytkcpfcnpniblcad", sum := "88dbdd021e197413fd49c6b49d73c4b147deb8ed094bc9e653307376be1a15d1", func := "shale/shalelaw03.RailBack", spec := "railBack", apart := false }
def RailBackSaid : Prop := railBackRow.holds Try.pinned (OpenSpec.ofChange railBackSpec)

/-- ITS FALSE NEIGHBOUR: 'it returns false'. Refute it at one input. -/
def railBackWrong : ChangeSpec := { name := "railBack", fn := fun _ => fun
  | [d1, d2, d3] => { results := [.lit (.bool false)], args := [d1, d2, d3] }
  | _ => none }
def RailBackWrongFalsely : Prop := railBackRow.holds Try.pinned (OpenSpec.ofChange railBackWrong)

/-- 'shalelaw03.RailOwn': WHATEVER THE INPUT: true; the input reads as it did. -/
def railOwnSpec : ChangeSpec := { name := "railOwn", fn := fun _ => fun
  | [d1, d2] => { results := [.lit (.bool true)], args := [d1, d2] }
  | _ => none }
def railOwnRow : OpenClaim := { program := "ytkcpfcnpniblcad", sum := "88dbdd021e197413fd49c6b49d73c4b147deb8ed094bc9e653307376be1a15d1", func := "shale/shalelaw03.RailOwn", spec := "railOwn", apart := false }
def RailOwnSaid : Prop := railOwnRow.holds Try.pinned (OpenSpec.ofChange railOwnSpec)

/-- ITS FALSE NEIGHBOUR: 'it returns false'. Refute it at one input. -/
def railOwnWrong : ChangeSpec := { name := "railOwn", fn := fun _ => fun
  | [d1, d2] => { results := [.lit (.bool false)], args := [d1, d2] }
  | _ => none }
def RailOwnWrongFalsely : Prop := railOwnRow.holds Try.pinned (OpenSpec.ofChange railOwnWrong)

/-- 'shalelaw03.RailReads': WHATEVER THE INPUT: true; the input reads as it did. -/
def railReadsSpec : ChangeSpec := { name := "railReads", fn := fun _ => fun
  | [d] => { results := [.lit (.bool true)], args := [d] }
  | _ => none }
def railReadsRow : OpenClaim := { program := "ytkcpfcnpniblcad", sum := "88dbdd021e197413fd49c6b49d73c4b147deb8ed094bc9e653307376be1a15d1", func := "shale/shalelaw03.RailReads", spec := "railReads", apart := false }
def RailReadsSaid : Prop := railReadsRow.holds Try.pinned (OpenSpec.ofChange railReadsSpec)

/-- ITS FALSE NEIGHBOUR: 'it returns false'. Refute it at one input. -/
def railReadsWrong : ChangeSpec := { name := "railReads", fn := fun _ => fun
  | [d] => { results := [.lit (.bool false)], args := [d] }
  | _ => none }
def RailReadsWrongFalsely : Prop := railReadsRow.holds Try.pinned (OpenSpec.ofChange railReadsWrong)

/- THE SECOND FORM. 'bulk': how many values and letters a reading holds, each counted each time it is reached (what is shared counts as often as it is met; a slice's spare places count too). A statement '..UptoSaid' is the law's where the arguments, and the package variables that the reading takes, are together of bulk at most 1048576: NARROWER than '..Said'. Prove '..Said' where nothing that the law and all that it calls make is longer than what came in: it says more and counts as full. Else prove '..UptoSaid'. A law counts once. -/
mutual
def uptoBulk {H : Type} : DataW H → Nat
  | .lit (.string bytes) => bytes.length + 1
  | .lit _ => 1
  | .nil => 1
  | .ptr d => uptoBulk d + 1
  | .slice elems spare => uptoBulkAll elems + uptoBulkAll spare + 1
  | .agg parts => uptoBulkAll parts + 1
  | .iface _ d => uptoBulk d + 1
  | .map entries => uptoBulkEntries entries + 1
  | .held _ => 1
def uptoBulkAll {H : Type} : List (DataW H) → Nat
  | [] => 0
  | d :: r => uptoBulk d + uptoBulkAll r
def uptoBulkEntries {H : Type} : List (Lit × DataW H) → Nat
  | [] => 0
  | x :: r => uptoBulkEntry x + uptoBulkEntries r
def uptoBulkEntry {H : Type} : Lit × DataW H → Nat
  | (.string bytes, d) => bytes.length + uptoBulk d + 1
  | (_, d) => uptoBulk d + 1
 end
def uptoSmall : (H : Type) → List (DataW H) → Bool := fun _ ds => decide (uptoBulkAll ds ≤ 1048576)
def OpenSpec.upto (s : _root_.Go.ChangeSpec) : _root_.Go.OpenSpec := { _root_.Go.OpenSpec.ofChange s with cond := some uptoSmall }

/-- 'shalelaw03.RailFar', WHERE WHAT IT READS IS OF BULK AT MOST 1048576: true; the input reads as it did. -/
def railFarUptoRow : OpenClaim := { program := "ytkcpfcnpniblcad", sum := "88dbdd021e197413fd49c6b49d73c4b147deb8ed094bc9e653307376be1a15d1", func := "shale/shalelaw03.RailFar", spec := "railFar", apart := false, narrowed := true }
def RailFarUptoSaid : Prop := railFarUptoRow.holds Try.pinned (OpenSpec.upto railFarSpec)

/-- 'shalelaw03.RailLays', WHERE WHAT IT READS IS OF BULK AT MOST 1048576: true; the input reads as it did. -/
def railLaysUptoRow : OpenClaim := { program := "ytkcpfcnpniblcad", sum := "88dbdd021e197413fd49c6b49d73c4b147deb8ed094bc9e653307376be1a15d1", func := "shale/shalelaw03.RailLays", spec := "railLays", apart := false, narrowed := true }
def RailLaysUptoSaid : Prop := railLaysUptoRow.holds Try.pinned (OpenSpec.upto railLaysSpec)

/-- 'shalelaw03.RailBack', WHERE WHAT IT READS IS OF BULK AT MOST 1048576: true; the input reads as it did. -/
def railBackUptoRow : OpenClaim := { program := "ytkcpfcnpniblcad", sum := "88dbdd021e197413fd49c6b49d73c4b147deb8ed094bc9e653307376be1a15d1", func := "shale/shalelaw03.RailBack", spec := "railBack", apart := false, narrowed := true }
def RailBackUptoSaid : Prop := railBackUptoRow.holds Try.pinned (OpenSpec.upto railBackSpec)

/-- 'shalelaw03.RailOwn', WHERE WHAT IT READS IS OF BULK AT MOST 1048576: true; the input reads as it did. -/
def railOwnUptoRow : OpenClaim := { program := "ytkcpfcnpniblcad", sum := "88dbdd021e197413fd49c6b49d73c4b147deb8ed094bc9e653307376be1a15d1", func := "shale/shalelaw03.RailOwn", spec := "railOwn", apart := false, narrowed := true }
def RailOwnUptoSaid : Prop := railOwnUptoRow.holds Try.pinned (OpenSpec.upto railOwnSpec)

/-- 'shalelaw03.RailReads', WHERE WHAT IT READS IS OF BULK AT MOST 1048576: true; the input reads as it did. -/
def railReadsUptoRow : OpenClaim := { program := "ytkcpfcnpniblcad", sum := "88dbdd021e197413fd49c6b49d73c4b147deb8ed094bc9e653307376be1a15d1", func := "shale/shalelaw03.RailReads", spec := "railReads", apart := false, narrowed := true }
def RailReadsUptoSaid : Prop := railReadsUptoRow.holds Try.pinned (OpenSpec.upto railReadsSpec)

end Rows
end Go.Proofs.Ytkcpfcnpniblcad
