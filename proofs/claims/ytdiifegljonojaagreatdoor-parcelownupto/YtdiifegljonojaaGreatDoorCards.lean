/-
  DERIVED. GIVEN WITH THE SEED: THE CARDS: each row of YtdiifegljonojaaGreatDoorRows.lean that lists a variable, with what it lists TIED to the program's text (the seventh form; the later family's looks); each row that meets fmt, with fmt's text TOLD by the authors' own Lean function (tested against real Go, not proved from fmt's source: count such statements apart). THE CARD IS WHAT COUNTS. Prove the row's statement (the work); the ties are given (YtdiifegljonojaaGreatDoorTie.lean); close each card by the builder's one call (the guide's Derived/Test/ToyasCard.lean, 'card_holds'). Laid BY PROGRAM, IN A SANDBOX (cutbox-door.mjs). By AI agents, Wed Nov 11 2026. No macro, syntax, notation, axiom, sorry.
-/
import Derived.Test.YtdiifegljonojaaGreatDoorRows
import GoSem.ClaimSeven
namespace Go.Proofs.YtdiifegljonojaaGreatDoor
namespace Rows

/-- THE TIED CARD OF 'shalelaw18.ParcelOwn'. -/
def parcelOwnCard : Claim7 := { stood := { row := parcelOwnRow, standIns := [], harness := (true, "1228a3c7a9e44b2283ba9aa34868a92d67f68d5b4cb768578da2f0fe3ef71eb8"), looks := true }, kinds := [], alts := [], laidByText := true, laidKinds := [.data, .called, .pinned], laidTests := true, laidLooks := .later }
def ParcelOwnCardSaid : Prop := Claim7.holds Tryz.pinned (.plain (OpenSpec.ofChange parcelOwnSpec)) parcelOwnCard

/-- THE TIED CARD OF 'shalelaw18.ParcelCanon'. -/
def parcelCanonCard : Claim7 := { stood := { row := parcelCanonRow, standIns := [], harness := (true, "1228a3c7a9e44b2283ba9aa34868a92d67f68d5b4cb768578da2f0fe3ef71eb8"), looks := true }, kinds := [], alts := [], laidByText := true, laidKinds := [.data, .called, .pinned], laidTests := true, laidLooks := .later }
def ParcelCanonCardSaid : Prop := Claim7.holds Tryz.pinned (.plain (OpenSpec.ofChange parcelCanonSpec)) parcelCanonCard

/-- THE SECOND FORM's CARD OF 'shalelaw18.ParcelOwn'. -/
def parcelOwnUptoCard : Claim7 := { stood := { row := parcelOwnUptoRow, standIns := [], harness := (true, "1228a3c7a9e44b2283ba9aa34868a92d67f68d5b4cb768578da2f0fe3ef71eb8"), looks := true }, kinds := [], alts := [], laidByText := true, laidKinds := [.data, .called, .pinned], laidTests := true, laidLooks := .later }
def ParcelOwnUptoCardSaid : Prop := Claim7.holds Tryz.pinned (.plain (OpenSpec.upto parcelOwnSpec)) parcelOwnUptoCard

/-- THE SECOND FORM's CARD OF 'shalelaw18.ParcelCanon'. -/
def parcelCanonUptoCard : Claim7 := { stood := { row := parcelCanonUptoRow, standIns := [], harness := (true, "1228a3c7a9e44b2283ba9aa34868a92d67f68d5b4cb768578da2f0fe3ef71eb8"), looks := true }, kinds := [], alts := [], laidByText := true, laidKinds := [.data, .called, .pinned], laidTests := true, laidLooks := .later }
def ParcelCanonUptoCardSaid : Prop := Claim7.holds Tryz.pinned (.plain (OpenSpec.upto parcelCanonSpec)) parcelCanonUptoCard
end Rows
end Go.Proofs.YtdiifegljonojaaGreatDoor
