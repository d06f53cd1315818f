/-
  DERIVED. GIVEN WITH THE SEED: THE CARDS: each row of YtnopljjngbgpdabDoorRows.lean that lists a variable, with what it lists TIED to the program's text (the seventh form; the later family's looks); each row that meets fmt, with fmt's text TOLD by the authors' own Lean function (tested against real Go, not proved from fmt's source: count such statements apart). THE CARD IS WHAT COUNTS. Prove the row's statement (the work); the ties are given (YtnopljjngbgpdabDoorTie.lean); close each card by the builder's one call (the guide's Derived/Test/ToyasCard.lean, 'card_holds'). Laid BY PROGRAM, IN A SANDBOX (cutbox-door.mjs). By AI agents, Wed Nov 11 2026. No macro, syntax, notation, axiom, sorry.
-/
import Derived.Test.YtnopljjngbgpdabDoorRows
import GoSem.ClaimSeven
namespace Go.Proofs.YtnopljjngbgpdabDoor
namespace Rows

/-- THE TIED CARD OF 'shalelaw20.ImageBack'. -/
def imageBackCard : Claim7 := { stood := { row := imageBackRow, standIns := [], harness := (true, "e63cea566fad07fb7e4b91e72f7003f922d9c6be4cc4c0e275051a8aca522178"), looks := false }, kinds := [], alts := [], laidByText := true, laidKinds := [.called], laidTests := true, laidLooks := .later }
def ImageBackCardSaid : Prop := Claim7.holds Tryd.pinned (.plain (OpenSpec.ofChange imageBackSpec)) imageBackCard

/-- THE TIED CARD OF 'shalelaw20.ImageWhole'. -/
def imageWholeCard : Claim7 := { stood := { row := imageWholeRow, standIns := [], harness := (true, "e63cea566fad07fb7e4b91e72f7003f922d9c6be4cc4c0e275051a8aca522178"), looks := false }, kinds := [], alts := [], laidByText := true, laidKinds := [.called], laidTests := true, laidLooks := .later }
def ImageWholeCardSaid : Prop := Claim7.holds Tryd.pinned (.plain (OpenSpec.ofChange imageWholeSpec)) imageWholeCard

/-- THE TIED CARD OF 'shalelaw20.ImageBursts'. -/
def imageBurstsCard : Claim7 := { stood := { row := imageBurstsRow, standIns := [], harness := (true, "e63cea566fad07fb7e4b91e72f7003f922d9c6be4cc4c0e275051a8aca522178"), looks := false }, kinds := [], alts := [], laidByText := true, laidKinds := [.called], laidTests := true, laidLooks := .later }
def ImageBurstsCardSaid : Prop := Claim7.holds Tryd.pinned (.plain (OpenSpec.ofChange imageBurstsSpec)) imageBurstsCard

/-- THE TIED CARD OF 'shalelaw20.ImageCanon'. -/
def imageCanonCard : Claim7 := { stood := { row := imageCanonRow, standIns := [], harness := (true, "e63cea566fad07fb7e4b91e72f7003f922d9c6be4cc4c0e275051a8aca522178"), looks := false }, kinds := [], alts := [], laidByText := true, laidKinds := [.called], laidTests := true, laidLooks := .later }
def ImageCanonCardSaid : Prop := Claim7.holds Tryd.pinned (.plain (OpenSpec.ofChange imageCanonSpec)) imageCanonCard

/-- THE TIED CARD OF 'shalelaw20.ImageApart'. -/
def imageApartCard : Claim7 := { stood := { row := imageApartRow, standIns := [], harness := (true, "e63cea566fad07fb7e4b91e72f7003f922d9c6be4cc4c0e275051a8aca522178"), looks := false }, kinds := [], alts := [], laidByText := true, laidKinds := [.called], laidTests := true, laidLooks := .later }
def ImageApartCardSaid : Prop := Claim7.holds Tryd.pinned (.plain (OpenSpec.ofChange imageApartSpec)) imageApartCard

/-- THE TIED CARD OF 'shalelaw20.ImagePacks'. -/
def imagePacksCard : Claim7 := { stood := { row := imagePacksRow, standIns := [], harness := (true, "e63cea566fad07fb7e4b91e72f7003f922d9c6be4cc4c0e275051a8aca522178"), looks := false }, kinds := [], alts := [], laidByText := true, laidKinds := [.called], laidTests := true, laidLooks := .later }
def ImagePacksCardSaid : Prop := Claim7.holds Tryd.pinned (.plain (OpenSpec.ofChange imagePacksSpec)) imagePacksCard

/-- THE SECOND FORM's CARD OF 'shalelaw20.ImageBack'. -/
def imageBackUptoCard : Claim7 := { stood := { row := imageBackUptoRow, standIns := [], harness := (true, "e63cea566fad07fb7e4b91e72f7003f922d9c6be4cc4c0e275051a8aca522178"), looks := false }, kinds := [], alts := [], laidByText := true, laidKinds := [.called], laidTests := true, laidLooks := .later }
def ImageBackUptoCardSaid : Prop := Claim7.holds Tryd.pinned (.plain (OpenSpec.upto imageBackSpec)) imageBackUptoCard

/-- THE SECOND FORM's CARD OF 'shalelaw20.ImageWhole'. -/
def imageWholeUptoCard : Claim7 := { stood := { row := imageWholeUptoRow, standIns := [], harness := (true, "e63cea566fad07fb7e4b91e72f7003f922d9c6be4cc4c0e275051a8aca522178"), looks := false }, kinds := [], alts := [], laidByText := true, laidKinds := [.called], laidTests := true, laidLooks := .later }
def ImageWholeUptoCardSaid : Prop := Claim7.holds Tryd.pinned (.plain (OpenSpec.upto imageWholeSpec)) imageWholeUptoCard

/-- THE SECOND FORM's CARD OF 'shalelaw20.ImageBursts'. -/
def imageBurstsUptoCard : Claim7 := { stood := { row := imageBurstsUptoRow, standIns := [], harness := (true, "e63cea566fad07fb7e4b91e72f7003f922d9c6be4cc4c0e275051a8aca522178"), looks := false }, kinds := [], alts := [], laidByText := true, laidKinds := [.called], laidTests := true, laidLooks := .later }
def ImageBurstsUptoCardSaid : Prop := Claim7.holds Tryd.pinned (.plain (OpenSpec.upto imageBurstsSpec)) imageBurstsUptoCard

/-- THE SECOND FORM's CARD OF 'shalelaw20.ImageCanon'. -/
def imageCanonUptoCard : Claim7 := { stood := { row := imageCanonUptoRow, standIns := [], harness := (true, "e63cea566fad07fb7e4b91e72f7003f922d9c6be4cc4c0e275051a8aca522178"), looks := false }, kinds := [], alts := [], laidByText := true, laidKinds := [.called], laidTests := true, laidLooks := .later }
def ImageCanonUptoCardSaid : Prop := Claim7.holds Tryd.pinned (.plain (OpenSpec.upto imageCanonSpec)) imageCanonUptoCard

/-- THE SECOND FORM's CARD OF 'shalelaw20.ImageApart'. -/
def imageApartUptoCard : Claim7 := { stood := { row := imageApartUptoRow, standIns := [], harness := (true, "e63cea566fad07fb7e4b91e72f7003f922d9c6be4cc4c0e275051a8aca522178"), looks := false }, kinds := [], alts := [], laidByText := true, laidKinds := [.called], laidTests := true, laidLooks := .later }
def ImageApartUptoCardSaid : Prop := Claim7.holds Tryd.pinned (.plain (OpenSpec.upto imageApartSpec)) imageApartUptoCard

/-- THE SECOND FORM's CARD OF 'shalelaw20.ImagePacks'. -/
def imagePacksUptoCard : Claim7 := { stood := { row := imagePacksUptoRow, standIns := [], harness := (true, "e63cea566fad07fb7e4b91e72f7003f922d9c6be4cc4c0e275051a8aca522178"), looks := false }, kinds := [], alts := [], laidByText := true, laidKinds := [.called], laidTests := true, laidLooks := .later }
def ImagePacksUptoCardSaid : Prop := Claim7.holds Tryd.pinned (.plain (OpenSpec.upto imagePacksSpec)) imagePacksUptoCard
end Rows
end Go.Proofs.YtnopljjngbgpdabDoor
