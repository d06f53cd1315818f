/-
  DERIVED. GIVEN WITH THE SEED: THE CARDS: each row of YtgdmagmbkmgdfabDoorRows.lean that lists a variable, with what it lists TIED to the program's text (the seventh form; the later family's looks); each row that meets fmt, with fmt's text TOLD by the authors' own Lean function (tested against real Go, not proved from fmt's source: count such statements apart). THE CARD IS WHAT COUNTS. Prove the row's statement (the work); the ties are given (YtgdmagmbkmgdfabDoorTie.lean); close each card by the builder's one call (the guide's Derived/Test/ToyasCard.lean, 'card_holds'). Laid BY PROGRAM, IN A SANDBOX (cutbox-door.mjs). By AI agents, Wed Nov 11 2026. No macro, syntax, notation, axiom, sorry.
-/
import Derived.Test.YtgdmagmbkmgdfabDoorRows
import GoSem.ClaimSeven
namespace Go.Proofs.YtgdmagmbkmgdfabDoor
namespace Rows

/-- THE TIED CARD OF 'shalelaw06.TagsTorn'. -/
def tagsTornCard : Claim7 := { stood := { row := tagsTornRow, standIns := [], harness := (true, "5d1ee8f9c51f9165ee3cd6628718a869b99a49a1e1bc6a006ce93306855ed722"), looks := false }, kinds := [], alts := [], laidByText := true, laidKinds := [.data], laidTests := true, laidLooks := .later }
def TagsTornCardSaid : Prop := Claim7.holds Tryd.pinned (.plain (OpenSpec.ofChange tagsTornSpec)) tagsTornCard

/-- THE TIED CARD OF 'shalelaw06.TagsOwn'. -/
def tagsOwnCard : Claim7 := { stood := { row := tagsOwnRow, standIns := [], harness := (true, "5d1ee8f9c51f9165ee3cd6628718a869b99a49a1e1bc6a006ce93306855ed722"), looks := false }, kinds := [], alts := [], laidByText := true, laidKinds := [.data], laidTests := true, laidLooks := .later }
def TagsOwnCardSaid : Prop := Claim7.holds Tryd.pinned (.plain (OpenSpec.ofChange tagsOwnSpec)) tagsOwnCard

/-- THE SECOND FORM's CARD OF 'shalelaw06.TagsTorn'. -/
def tagsTornUptoCard : Claim7 := { stood := { row := tagsTornUptoRow, standIns := [], harness := (true, "5d1ee8f9c51f9165ee3cd6628718a869b99a49a1e1bc6a006ce93306855ed722"), looks := false }, kinds := [], alts := [], laidByText := true, laidKinds := [.data], laidTests := true, laidLooks := .later }
def TagsTornUptoCardSaid : Prop := Claim7.holds Tryd.pinned (.plain (OpenSpec.upto tagsTornSpec)) tagsTornUptoCard

/-- THE SECOND FORM's CARD OF 'shalelaw06.TagsOwn'. -/
def tagsOwnUptoCard : Claim7 := { stood := { row := tagsOwnUptoRow, standIns := [], harness := (true, "5d1ee8f9c51f9165ee3cd6628718a869b99a49a1e1bc6a006ce93306855ed722"), looks := false }, kinds := [], alts := [], laidByText := true, laidKinds := [.data], laidTests := true, laidLooks := .later }
def TagsOwnUptoCardSaid : Prop := Claim7.holds Tryd.pinned (.plain (OpenSpec.upto tagsOwnSpec)) tagsOwnUptoCard
end Rows
end Go.Proofs.YtgdmagmbkmgdfabDoor
