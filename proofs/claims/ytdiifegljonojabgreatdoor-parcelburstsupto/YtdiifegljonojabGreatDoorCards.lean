/-
  DERIVED. GIVEN WITH THE SEED: THE CARDS: each row of YtdiifegljonojabGreatDoorRows.lean that lists a variable, with what it lists TIED to the program's text (the seventh form; the later family's looks); each row that meets fmt, with fmt's text TOLD by the authors' own Lean function (tested against real Go, not proved from fmt's source: count such statements apart). THE CARD IS WHAT COUNTS. Prove the row's statement (the work); the ties are given (YtdiifegljonojabGreatDoorTie.lean); close each card by the builder's one call (the guide's Derived/Test/ToyasCard.lean, 'card_holds'). Laid BY PROGRAM, IN A SANDBOX (cutbox-door.mjs). By AI agents, Wed Nov 11 2026. No macro, syntax, notation, axiom, sorry.
-/
import Derived.Test.YtdiifegljonojabGreatDoorRows
import GoSem.ClaimSeven
namespace Go.Proofs.YtdiifegljonojabGreatDoor
namespace Rows

/-- THE TIED CARD OF 'shalelaw18.ParcelBursts'. -/
def parcelBurstsCard : Claim7 := { stood := { row := parcelBurstsRow, standIns := [], harness := (true, "e1133ea84ac300da55d12586ef5392c61b3f16d432a13e35412e70075b6ffc77"), looks := true }, kinds := [], alts := [], laidByText := true, laidKinds := [.data, .called, .pinned], laidTests := true, laidLooks := .later }
def ParcelBurstsCardSaid : Prop := Claim7.holds Tryz.pinned (.plain (OpenSpec.ofChange parcelBurstsSpec)) parcelBurstsCard

/-- THE SECOND FORM's CARD OF 'shalelaw18.ParcelBursts'. -/
def parcelBurstsUptoCard : Claim7 := { stood := { row := parcelBurstsUptoRow, standIns := [], harness := (true, "e1133ea84ac300da55d12586ef5392c61b3f16d432a13e35412e70075b6ffc77"), looks := true }, kinds := [], alts := [], laidByText := true, laidKinds := [.data, .called, .pinned], laidTests := true, laidLooks := .later }
def ParcelBurstsUptoCardSaid : Prop := Claim7.holds Tryz.pinned (.plain (OpenSpec.upto parcelBurstsSpec)) parcelBurstsUptoCard
end Rows
end Go.Proofs.YtdiifegljonojabGreatDoor
