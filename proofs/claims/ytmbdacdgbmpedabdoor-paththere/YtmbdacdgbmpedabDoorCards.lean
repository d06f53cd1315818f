/-
  DERIVED. GIVEN WITH THE SEED: THE CARDS: each row of YtmbdacdgbmpedabDoorRows.lean that lists a variable, with what it lists TIED to the program's text (the seventh form; the later family's looks); each row that meets fmt, with fmt's text TOLD by the authors' own Lean function (tested against real Go, not proved from fmt's source: count such statements apart). THE CARD IS WHAT COUNTS. Prove the row's statement (the work); the ties are given (YtmbdacdgbmpedabDoorTie.lean); close each card by the builder's one call (the guide's Derived/Test/ToyasCard.lean, 'card_holds'). Laid BY PROGRAM, IN A SANDBOX (cutbox-door.mjs). By AI agents, Wed Nov 11 2026. No macro, syntax, notation, axiom, sorry.
-/
import Derived.Test.YtmbdacdgbmpedabDoorRows
import GoSem.ClaimSeven
namespace Go.Proofs.YtmbdacdgbmpedabDoor
namespace Rows

/-- THE TIED CARD OF 'shalelaw16.PathThere'. -/
def pathThereCard : Claim7 := { stood := { row := pathThereRow, standIns := [], harness := (true, "5620981e6b65e4bef19e5a35361ddea6fc351df127d1f4eb465a8379a98502ac"), looks := false }, kinds := [], alts := [], laidByText := true, laidKinds := [.data, .pinned], laidTests := true, laidLooks := .later }
def PathThereCardSaid : Prop := Claim7.holds Tryd.pinned (.plain (OpenSpec.ofChange pathThereSpec)) pathThereCard

/-- THE SECOND FORM's CARD OF 'shalelaw16.PathThere'. -/
def pathThereUptoCard : Claim7 := { stood := { row := pathThereUptoRow, standIns := [], harness := (true, "5620981e6b65e4bef19e5a35361ddea6fc351df127d1f4eb465a8379a98502ac"), looks := false }, kinds := [], alts := [], laidByText := true, laidKinds := [.data, .pinned], laidTests := true, laidLooks := .later }
def PathThereUptoCardSaid : Prop := Claim7.holds Tryd.pinned (.plain (OpenSpec.upto pathThereSpec)) pathThereUptoCard
end Rows
end Go.Proofs.YtmbdacdgbmpedabDoor
