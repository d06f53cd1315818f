/-
  DERIVED. GIVEN WITH THE SEED: THE CARDS: each row of YtnmnhgagnfodhaaDoorRows.lean that lists a variable, with what it lists TIED to the program's text (the seventh form; the later family's looks); each row that meets fmt, with fmt's text TOLD by the authors' own Lean function (tested against real Go, not proved from fmt's source: count such statements apart). THE CARD IS WHAT COUNTS. Prove the row's statement (the work); the ties are given (YtnmnhgagnfodhaaDoorTie.lean); close each card by the builder's one call (the guide's Derived/Test/ToyasCard.lean, 'card_holds'). Laid BY PROGRAM, IN A SANDBOX (cutbox-door.mjs). By AI agents, Wed Nov 11 2026. No macro, syntax, notation, axiom, sorry.
-/
import Derived.Test.YtnmnhgagnfodhaaDoorRows
import GoSem.ClaimSeven
namespace Go.Proofs.YtnmnhgagnfodhaaDoor
namespace Rows

/-- THE TIED CARD OF 'shalelaw20.ImageChip'. -/
def imageChipCard : Claim7 := { stood := { row := imageChipRow, standIns := [], harness := (true, "1e2ef62a35c02b2f4f2a419a87db4a83fafaba41e82d9b96a94d4ea7b82d8bc7"), looks := false }, kinds := [], alts := [], laidByText := true, laidKinds := [.called], laidTests := true, laidLooks := .later }
def ImageChipCardSaid : Prop := Claim7.holds Tryd.pinned (.plain (OpenSpec.ofChange imageChipSpec)) imageChipCard

/-- THE SECOND FORM's CARD OF 'shalelaw20.ImageChip'. -/
def imageChipUptoCard : Claim7 := { stood := { row := imageChipUptoRow, standIns := [], harness := (true, "1e2ef62a35c02b2f4f2a419a87db4a83fafaba41e82d9b96a94d4ea7b82d8bc7"), looks := false }, kinds := [], alts := [], laidByText := true, laidKinds := [.called], laidTests := true, laidLooks := .later }
def ImageChipUptoCardSaid : Prop := Claim7.holds Tryd.pinned (.plain (OpenSpec.upto imageChipSpec)) imageChipUptoCard
end Rows
end Go.Proofs.YtnmnhgagnfodhaaDoor
