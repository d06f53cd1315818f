/-
  DERIVED. GIVEN WITH THE SEED: THE CARDS: each row of YteefekhlbillfaaDoorRows.lean that lists a variable, with what it lists TIED to the program's text (the seventh form; the later family's looks); each row that meets fmt, with fmt's text TOLD by the authors' own Lean function (tested against real Go, not proved from fmt's source: count such statements apart). THE CARD IS WHAT COUNTS. Prove the row's statement (the work); the ties are given (YteefekhlbillfaaDoorTie.lean); close each card by the builder's one call (the guide's Derived/Test/ToyasCard.lean, 'card_holds'). Laid BY PROGRAM, IN A SANDBOX (cutbox-door.mjs). By AI agents, Wed Nov 11 2026. No macro, syntax, notation, axiom, sorry.
-/
import Derived.Test.YteefekhlbillfaaDoorRows
import GoSem.ClaimSeven
namespace Go.Proofs.YteefekhlbillfaaDoor
namespace Rows

/-- THE TIED CARD OF 'shalelaw20.ImageReads'. -/
def imageReadsCard : Claim7 := { stood := { row := imageReadsRow, standIns := [], harness := (true, "f574ffb0d0a16b8dfd11e658a6cca951806b4c8cbacf1c88a33b9bc611e68a37"), looks := false }, kinds := [], alts := [], laidByText := true, laidKinds := [.called], laidTests := true, laidLooks := .later }
def ImageReadsCardSaid : Prop := Claim7.holds Tryd.pinned (.plain (OpenSpec.ofChange imageReadsSpec)) imageReadsCard

/-- THE TIED CARD OF 'shalelaw20.ImageOwn'. -/
def imageOwnCard : Claim7 := { stood := { row := imageOwnRow, standIns := [], harness := (true, "f574ffb0d0a16b8dfd11e658a6cca951806b4c8cbacf1c88a33b9bc611e68a37"), looks := false }, kinds := [], alts := [], laidByText := true, laidKinds := [.called], laidTests := true, laidLooks := .later }
def ImageOwnCardSaid : Prop := Claim7.holds Tryd.pinned (.plain (OpenSpec.ofChange imageOwnSpec)) imageOwnCard

/-- THE SECOND FORM's CARD OF 'shalelaw20.ImageReads'. -/
def imageReadsUptoCard : Claim7 := { stood := { row := imageReadsUptoRow, standIns := [], harness := (true, "f574ffb0d0a16b8dfd11e658a6cca951806b4c8cbacf1c88a33b9bc611e68a37"), looks := false }, kinds := [], alts := [], laidByText := true, laidKinds := [.called], laidTests := true, laidLooks := .later }
def ImageReadsUptoCardSaid : Prop := Claim7.holds Tryd.pinned (.plain (OpenSpec.upto imageReadsSpec)) imageReadsUptoCard

/-- THE SECOND FORM's CARD OF 'shalelaw20.ImageOwn'. -/
def imageOwnUptoCard : Claim7 := { stood := { row := imageOwnUptoRow, standIns := [], harness := (true, "f574ffb0d0a16b8dfd11e658a6cca951806b4c8cbacf1c88a33b9bc611e68a37"), looks := false }, kinds := [], alts := [], laidByText := true, laidKinds := [.called], laidTests := true, laidLooks := .later }
def ImageOwnUptoCardSaid : Prop := Claim7.holds Tryd.pinned (.plain (OpenSpec.upto imageOwnSpec)) imageOwnUptoCard
end Rows
end Go.Proofs.YteefekhlbillfaaDoor
