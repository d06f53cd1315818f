/-
  NARROWER THAN 'FOR EVERY INPUT', by the rows' own cells (each row's printed sentence says how): ImageBack: laid · ImageWhole: laid · ImageBursts: laid · ImageCanon: laid · ImageApart: laid · ImagePacks: laid.
  DERIVED. THE GIVEN ROWS OF THIS SEAT. 6 by the template 'for every input the law returns true; each argument reads behind the call as it read before'; 0 by the template 'total and deterministic' (their statements: YtnopljjngbgpdabDoorTotals.lean).
  GIVEN WITH THE SEED: the statements are not yours to turn. If you find one false, say at which input.
  Laid BY PROGRAM, IN A SANDBOX (cutbox-rows.mjs): the forced cells as the released guide's own fill.sh prints them over the translation 7b4f4e7977dd009f… (all of the seat's roots in one cut). By AI agents, Wed Nov 11 2026. No macro, syntax, notation, axiom, sorry.
-/
import Derived.Test.YtnopljjngbgpdabDoorChecked
import GoSem.Claim
import GoSem.ClaimJoined
import GoSem.ClaimMapViews
import Derived.JoinedTies
import Derived.KernelRfl
namespace Go.Proofs.YtnopljjngbgpdabDoor
/- THE CELL 'sum', in the pinned program and in every row, IS THE sha256 OF THE DUMP (.gsa) THAT YtnopljjngbgpdabDoorProg.lean LOADS. Nothing in Lean hashes anything: it is a label: what it is worth is what the hold of that sum in a sandbox is worth. -/
noncomputable def Tryd.pinned : Pinned := { name := "ytnopljjngbgpdabdoor", sum := "7b4f4e7977dd009f3f46b1e1c88c8f536d348e948c519e980618df04df9abdfe", checked := Tryd.checked }
namespace Rows
def none {H : Type} : Left H := { results := [], args := [] }

/- WHAT THE LISTED PACKAGE-LEVEL VARIABLES READ AS WHEN THE CALL BEGINS. Each datum BY PROGRAM (the guide's laid-datum.mjs) off the statement by which the dump's own 'gosem.cut.vars' lays the variable. In a bare row this is a premise. The card (YtnopljjngbgpdabDoorCards.lean) ties it to the program's text. -/
def laid_shale_words_halves {H : Type} : DataW H := .agg [.lit (.int .u32 0), .lit (.int .u32 498536548), .lit (.int .u32 997073096), .lit (.int .u32 651767980), .lit (.int .u32 1994146192), .lit (.int .u32 1802195444), .lit (.int .u32 1303535960), .lit (.int .u32 1342533948), .lit (.int .u32 3988292384), .lit (.int .u32 4027552580), .lit (.int .u32 3604390888), .lit (.int .u32 3412177804), .lit (.int .u32 2607071920), .lit (.int .u32 2262029012), .lit (.int .u32 2685067896), .lit (.int .u32 3183342108)]

/-- 'shalelaw20.ImageBack': WHATEVER THE INPUT: true; the input reads as it did. -/
def imageBackSpec : ChangeSpec := { name := "imageBack", fn := fun _ => fun
  | [d] => { results := [.lit (.bool true)], args := [d] }
  | _ => none }
def imageBackRow : OpenClaim := { program := "ytnopljjngbgpdabdoor", sum := "7b4f4e7977dd009f3f46b1e1c88c8f536d348e948c519e980618df04df9abdfe", func := "shale/shalelaw20.ImageBack", spec := "imageBack", inPlace := ["internal/bytealg.MakeNoZero"], unfollowed := true, recurses := true, named := ["shale/words.halves"], apart := false, laid := [("shale/words.halves", laid_shale_words_halves)] }
def ImageBackSaid : Prop := imageBackRow.holds Tryd.pinned (OpenSpec.ofChange imageBackSpec)

/-- ITS FALSE NEIGHBOUR: 'it returns false'. Refute it at one input. -/
def imageBackWrong : ChangeSpec := { name := "imageBack", fn := fun _ => fun
  | [d] => { results := [.lit (.bool false)], args := [d] }
  | _ => none }
def ImageBackWrongFalsely : Prop := imageBackRow.holds Tryd.pinned (OpenSpec.ofChange imageBackWrong)

/-- 'shalelaw20.ImageWhole': WHATEVER THE INPUT: true; the input reads as it did. -/
def imageWholeSpec : ChangeSpec := { name := "imageWhole", fn := fun _ => fun
  | [d1, d2, d3] => { results := [.lit (.bool true)], args := [d1, d2, d3] }
  | _ => none }
def imageWholeRow : OpenClaim := { program := "ytnopljjngbgpdabdoor", sum := "7b4f4e7977dd009f3f46b1e1c88c8f536d348e948c519e980618df04df9abdfe", func := "shale/shalelaw20.ImageWhole", spec := "imageWhole", inPlace := ["internal/bytealg.MakeNoZero"], unfollowed := true, recurses := true, named := ["shale/words.halves"], apart := false, laid := [("shale/words.halves", laid_shale_words_halves)] }
def ImageWholeSaid : Prop := imageWholeRow.holds Tryd.pinned (OpenSpec.ofChange imageWholeSpec)

/-- ITS FALSE NEIGHBOUR: 'it returns false'. Refute it at one input. -/
def imageWholeWrong : ChangeSpec := { name := "imageWhole", fn := fun _ => fun
  | [d1, d2, d3] => { results := [.lit (.bool false)], args := [d1, d2, d3] }
  | _ => none }
def ImageWholeWrongFalsely : Prop := imageWholeRow.holds Tryd.pinned (OpenSpec.ofChange imageWholeWrong)

/-- 'shalelaw20.ImageBursts': WHATEVER THE INPUT: true; the input reads as it did. -/
def imageBurstsSpec : ChangeSpec := { name := "imageBursts", fn := fun _ => fun
  | [d1, d2, d3] => { results := [.lit (.bool true)], args := [d1, d2, d3] }
  | _ => none }
def imageBurstsRow : OpenClaim := { program := "ytnopljjngbgpdabdoor", sum := "7b4f4e7977dd009f3f46b1e1c88c8f536d348e948c519e980618df04df9abdfe", func := "shale/shalelaw20.ImageBursts", spec := "imageBursts", inPlace := ["internal/bytealg.MakeNoZero"], unfollowed := true, recurses := true, named := ["shale/words.halves"], apart := false, laid := [("shale/words.halves", laid_shale_words_halves)] }
def ImageBurstsSaid : Prop := imageBurstsRow.holds Tryd.pinned (OpenSpec.ofChange imageBurstsSpec)

/-- ITS FALSE NEIGHBOUR: 'it returns false'. Refute it at one input. -/
def imageBurstsWrong : ChangeSpec := { name := "imageBursts", fn := fun _ => fun
  | [d1, d2, d3] => { results := [.lit (.bool false)], args := [d1, d2, d3] }
  | _ => none }
def ImageBurstsWrongFalsely : Prop := imageBurstsRow.holds Tryd.pinned (OpenSpec.ofChange imageBurstsWrong)

/-- 'shalelaw20.ImageCanon': WHATEVER THE INPUT: true; the input reads as it did. -/
def imageCanonSpec : ChangeSpec := { name := "imageCanon", fn := fun _ => fun
  | [d1, d2, d3, d4] => { results := [.lit (.bool true)], args := [d1, d2, d3, d4] }
  | _ => none }
def imageCanonRow : OpenClaim := { program := "ytnopljjngbgpdabdoor", sum := "7b4f4e7977dd009f3f46b1e1c88c8f536d348e948c519e980618df04df9abdfe", func := "shale/shalelaw20.ImageCanon", spec := "imageCanon", inPlace := ["internal/bytealg.MakeNoZero"], unfollowed := true, recurses := true, named := ["shale/words.halves"], apart := false, laid := [("shale/words.halves", laid_shale_words_halves)] }
def ImageCanonSaid : Prop := imageCanonRow.holds Tryd.pinned (OpenSpec.ofChange imageCanonSpec)

/-- ITS FALSE NEIGHBOUR: 'it returns false'. Refute it at one input. -/
def imageCanonWrong : ChangeSpec := { name := "imageCanon", fn := fun _ => fun
  | [d1, d2, d3, d4] => { results := [.lit (.bool false)], args := [d1, d2, d3, d4] }
  | _ => none }
def ImageCanonWrongFalsely : Prop := imageCanonRow.holds Tryd.pinned (OpenSpec.ofChange imageCanonWrong)

/-- 'shalelaw20.ImageApart': WHATEVER THE INPUT: true; the input reads as it did. -/
def imageApartSpec : ChangeSpec := { name := "imageApart", fn := fun _ => fun
  | [d1, d2, d3] => { results := [.lit (.bool true)], args := [d1, d2, d3] }
  | _ => none }
def imageApartRow : OpenClaim := { program := "ytnopljjngbgpdabdoor", sum := "7b4f4e7977dd009f3f46b1e1c88c8f536d348e948c519e980618df04df9abdfe", func := "shale/shalelaw20.ImageApart", spec := "imageApart", inPlace := ["internal/bytealg.MakeNoZero"], unfollowed := true, recurses := true, named := ["shale/words.halves"], apart := false, laid := [("shale/words.halves", laid_shale_words_halves)] }
def ImageApartSaid : Prop := imageApartRow.holds Tryd.pinned (OpenSpec.ofChange imageApartSpec)

/-- ITS FALSE NEIGHBOUR: 'it returns false'. Refute it at one input. -/
def imageApartWrong : ChangeSpec := { name := "imageApart", fn := fun _ => fun
  | [d1, d2, d3] => { results := [.lit (.bool false)], args := [d1, d2, d3] }
  | _ => none }
def ImageApartWrongFalsely : Prop := imageApartRow.holds Tryd.pinned (OpenSpec.ofChange imageApartWrong)

/-- 'shalelaw20.ImagePacks': WHATEVER THE INPUT: true; the input reads as it did. -/
def imagePacksSpec : ChangeSpec := { name := "imagePacks", fn := fun _ => fun
  | [d] => { results := [.lit (.bool true)], args := [d] }
  | _ => none }
def imagePacksRow : OpenClaim := { program := "ytnopljjngbgpdabdoor", sum := "7b4f4e7977dd009f3f46b1e1c88c8f536d348e948c519e980618df04df9abdfe", func := "shale/shalelaw20.ImagePacks", spec := "imagePacks", unfollowed := true, recurses := true, named := ["shale/words.halves"], apart := false, laid := [("shale/words.halves", laid_shale_words_halves)] }
def ImagePacksSaid : Prop := imagePacksRow.holds Tryd.pinned (OpenSpec.ofChange imagePacksSpec)

/-- ITS FALSE NEIGHBOUR: 'it returns false'. Refute it at one input. -/
def imagePacksWrong : ChangeSpec := { name := "imagePacks", fn := fun _ => fun
  | [d] => { results := [.lit (.bool false)], args := [d] }
  | _ => none }
def ImagePacksWrongFalsely : Prop := imagePacksRow.holds Tryd.pinned (OpenSpec.ofChange imagePacksWrong)

/- THE SECOND FORM. 'bulk': how many values and letters a reading holds, each counted each time it is reached (what is shared counts as often as it is met; a slice's spare places count too). A statement '..UptoSaid' is the law's where the arguments, and the package variables that the reading takes, are together of bulk at most 1048576: NARROWER than '..Said'. Prove '..Said' where nothing that the law and all that it calls make is longer than what came in: it says more and counts as full. Else prove '..UptoSaid'. A law counts once. -/
mutual
def uptoBulk {H : Type} : DataW H → Nat
  | .lit (.string bytes) => bytes.length + 1
  | .lit _ => 1
  | .nil => 1
  | .ptr d => uptoBulk d + 1
  | .slice elems spare => uptoBulkAll elems + uptoBulkAll spare + 1
  | .agg parts => uptoBulkAll parts + 1
  | .iface _ d => uptoBulk d + 1
  | .map entries => uptoBulkEntries entries + 1
  | .held _ => 1
def uptoBulkAll {H : Type} : List (DataW H) → Nat
  | [] => 0
  | d :: r => uptoBulk d + uptoBulkAll r
def uptoBulkEntries {H : Type} : List (Lit × DataW H) → Nat
  | [] => 0
  | x :: r => uptoBulkEntry x + uptoBulkEntries r
def uptoBulkEntry {H : Type} : Lit × DataW H → Nat
  | (.string bytes, d) => bytes.length + uptoBulk d + 1
  | (_, d) => uptoBulk d + 1
 end
def uptoSmall : (H : Type) → List (DataW H) → Bool := fun _ ds => decide (uptoBulkAll ds ≤ 1048576)
def OpenSpec.upto (s : _root_.Go.ChangeSpec) : _root_.Go.OpenSpec := { _root_.Go.OpenSpec.ofChange s with cond := some uptoSmall }

/-- 'shalelaw20.ImageBack', WHERE WHAT IT READS IS OF BULK AT MOST 1048576: true; the input reads as it did. -/
def imageBackUptoRow : OpenClaim := { program := "ytnopljjngbgpdabdoor", sum := "7b4f4e7977dd009f3f46b1e1c88c8f536d348e948c519e980618df04df9abdfe", func := "shale/shalelaw20.ImageBack", spec := "imageBack", inPlace := ["internal/bytealg.MakeNoZero"], unfollowed := true, recurses := true, named := ["shale/words.halves"], apart := false, laid := [("shale/words.halves", laid_shale_words_halves)], narrowed := true }
def ImageBackUptoSaid : Prop := imageBackUptoRow.holds Tryd.pinned (OpenSpec.upto imageBackSpec)

/-- 'shalelaw20.ImageWhole', WHERE WHAT IT READS IS OF BULK AT MOST 1048576: true; the input reads as it did. -/
def imageWholeUptoRow : OpenClaim := { program := "ytnopljjngbgpdabdoor", sum := "7b4f4e7977dd009f3f46b1e1c88c8f536d348e948c519e980618df04df9abdfe", func := "shale/shalelaw20.ImageWhole", spec := "imageWhole", inPlace := ["internal/bytealg.MakeNoZero"], unfollowed := true, recurses := true, named := ["shale/words.halves"], apart := false, laid := [("shale/words.halves", laid_shale_words_halves)], narrowed := true }
def ImageWholeUptoSaid : Prop := imageWholeUptoRow.holds Tryd.pinned (OpenSpec.upto imageWholeSpec)

/-- 'shalelaw20.ImageBursts', WHERE WHAT IT READS IS OF BULK AT MOST 1048576: true; the input reads as it did. -/
def imageBurstsUptoRow : OpenClaim := { program := "ytnopljjngbgpdabdoor", sum := "7b4f4e7977dd009f3f46b1e1c88c8f536d348e948c519e980618df04df9abdfe", func := "shale/shalelaw20.ImageBursts", spec := "imageBursts", inPlace := ["internal/bytealg.MakeNoZero"], unfollowed := true, recurses := true, named := ["shale/words.halves"], apart := false, laid := [("shale/words.halves", laid_shale_words_halves)], narrowed := true }
def ImageBurstsUptoSaid : Prop := imageBurstsUptoRow.holds Tryd.pinned (OpenSpec.upto imageBurstsSpec)

/-- 'shalelaw20.ImageCanon', WHERE WHAT IT READS IS OF BULK AT MOST 1048576: true; the input reads as it did. -/
def imageCanonUptoRow : OpenClaim := { program := "ytnopljjngbgpdabdoor", sum := "7b4f4e7977dd009f3f46b1e1c88c8f536d348e948c519e980618df04df9abdfe", func := "shale/shalelaw20.ImageCanon", spec := "imageCanon", inPlace := ["internal/bytealg.MakeNoZero"], unfollowed := true, recurses := true, named := ["shale/words.halves"], apart := false, laid := [("shale/words.halves", laid_shale_words_halves)], narrowed := true }
def ImageCanonUptoSaid : Prop := imageCanonUptoRow.holds Tryd.pinned (OpenSpec.upto imageCanonSpec)

/-- 'shalelaw20.ImageApart', WHERE WHAT IT READS IS OF BULK AT MOST 1048576: true; the input reads as it did. -/
def imageApartUptoRow : OpenClaim := { program := "ytnopljjngbgpdabdoor", sum := "7b4f4e7977dd009f3f46b1e1c88c8f536d348e948c519e980618df04df9abdfe", func := "shale/shalelaw20.ImageApart", spec := "imageApart", inPlace := ["internal/bytealg.MakeNoZero"], unfollowed := true, recurses := true, named := ["shale/words.halves"], apart := false, laid := [("shale/words.halves", laid_shale_words_halves)], narrowed := true }
def ImageApartUptoSaid : Prop := imageApartUptoRow.holds Tryd.pinned (OpenSpec.upto imageApartSpec)

/-- 'shalelaw20.ImagePacks', WHERE WHAT IT READS IS OF BULK AT MOST 1048576: true; the input reads as it did. -/
def imagePacksUptoRow : OpenClaim := { program := "ytnopljjngbgpdabdoor", sum := "7b4f4e7977dd009f3f46b1e1c88c8f536d348e948c519e980618df04df9abdfe", func := "shale/shalelaw20.ImagePacks", spec := "imagePacks", unfollowed := true, recurses := true, named := ["shale/words.halves"], apart := false, laid := [("shale/words.halves", laid_shale_words_halves)], narrowed := true }
def ImagePacksUptoSaid : Prop := imagePacksUptoRow.holds Tryd.pinned (OpenSpec.upto imagePacksSpec)

end Rows
end Go.Proofs.YtnopljjngbgpdabDoor
