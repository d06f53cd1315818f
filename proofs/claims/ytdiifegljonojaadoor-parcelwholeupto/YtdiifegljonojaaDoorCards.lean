/-
  DERIVED. GIVEN WITH THE SEED: THE CARDS: each row of YtdiifegljonojaaDoorRows.lean that lists a variable, with what it lists TIED to the program's text (the seventh form; the later family's looks); each row that meets fmt, with fmt's text TOLD by the authors' own Lean function (tested against real Go, not proved from fmt's source: count such statements apart). THE CARD IS WHAT COUNTS. Prove the row's statement (the work); the ties are given (YtdiifegljonojaaDoorTie.lean); close each card by the builder's one call (the guide's Derived/Test/ToyasCard.lean, 'card_holds'). Laid BY PROGRAM, IN A SANDBOX (cutbox-door.mjs). By AI agents, Wed Nov 11 2026. No macro, syntax, notation, axiom, sorry.
-/
import Derived.Test.YtdiifegljonojaaDoorRows
import GoSem.ClaimSeven
namespace Go.Proofs.YtdiifegljonojaaDoor
namespace Rows

/-- THE TIED CARD OF 'shalelaw18.ParcelReads'. -/
def parcelReadsCard : Claim7 := { stood := { row := parcelReadsRow, standIns := [], harness := (true, "832d6b8b261212fab6e7bfe798e93582ccd88fedcc61f2a5fa3701a849f5e32c"), looks := true }, kinds := [], alts := [], laidByText := true, laidKinds := [.called], laidTests := true, laidLooks := .later }
def ParcelReadsCardSaid : Prop := Claim7.holds Tryd.pinned (.plain (OpenSpec.ofChange parcelReadsSpec)) parcelReadsCard

/-- THE TIED CARD OF 'shalelaw18.ParcelBack'. -/
def parcelBackCard : Claim7 := { stood := { row := parcelBackRow, standIns := [], harness := (true, "832d6b8b261212fab6e7bfe798e93582ccd88fedcc61f2a5fa3701a849f5e32c"), looks := true }, kinds := [], alts := [], laidByText := true, laidKinds := [.data, .called, .pinned], laidTests := true, laidLooks := .later }
def ParcelBackCardSaid : Prop := Claim7.holds Tryd.pinned (.plain (OpenSpec.ofChange parcelBackSpec)) parcelBackCard

/-- THE TIED CARD OF 'shalelaw18.ParcelWhole'. -/
def parcelWholeCard : Claim7 := { stood := { row := parcelWholeRow, standIns := [], harness := (true, "832d6b8b261212fab6e7bfe798e93582ccd88fedcc61f2a5fa3701a849f5e32c"), looks := true }, kinds := [], alts := [], laidByText := true, laidKinds := [.data, .called, .pinned], laidTests := true, laidLooks := .later }
def ParcelWholeCardSaid : Prop := Claim7.holds Tryd.pinned (.plain (OpenSpec.ofChange parcelWholeSpec)) parcelWholeCard

/-- THE TIED CARD OF 'shalelaw18.ParcelFewer'. -/
def parcelFewerCard : Claim7 := { stood := { row := parcelFewerRow, standIns := [], harness := (true, "832d6b8b261212fab6e7bfe798e93582ccd88fedcc61f2a5fa3701a849f5e32c"), looks := true }, kinds := [], alts := [], laidByText := true, laidKinds := [.data, .called, .pinned], laidTests := true, laidLooks := .later }
def ParcelFewerCardSaid : Prop := Claim7.holds Tryd.pinned (.plain (OpenSpec.ofChange parcelFewerSpec)) parcelFewerCard

/-- THE SECOND FORM's CARD OF 'shalelaw18.ParcelReads'. -/
def parcelReadsUptoCard : Claim7 := { stood := { row := parcelReadsUptoRow, standIns := [], harness := (true, "832d6b8b261212fab6e7bfe798e93582ccd88fedcc61f2a5fa3701a849f5e32c"), looks := true }, kinds := [], alts := [], laidByText := true, laidKinds := [.called], laidTests := true, laidLooks := .later }
def ParcelReadsUptoCardSaid : Prop := Claim7.holds Tryd.pinned (.plain (OpenSpec.upto parcelReadsSpec)) parcelReadsUptoCard

/-- THE SECOND FORM's CARD OF 'shalelaw18.ParcelBack'. -/
def parcelBackUptoCard : Claim7 := { stood := { row := parcelBackUptoRow, standIns := [], harness := (true, "832d6b8b261212fab6e7bfe798e93582ccd88fedcc61f2a5fa3701a849f5e32c"), looks := true }, kinds := [], alts := [], laidByText := true, laidKinds := [.data, .called, .pinned], laidTests := true, laidLooks := .later }
def ParcelBackUptoCardSaid : Prop := Claim7.holds Tryd.pinned (.plain (OpenSpec.upto parcelBackSpec)) parcelBackUptoCard

/-- THE SECOND FORM's CARD OF 'shalelaw18.ParcelWhole'. -/
def parcelWholeUptoCard : Claim7 := { stood := { row := parcelWholeUptoRow, standIns := [], harness := (true, "832d6b8b261212fab6e7bfe798e93582ccd88fedcc61f2a5fa3701a849f5e32c"), looks := true }, kinds := [], alts := [], laidByText := true, laidKinds := [.data, .called, .pinned], laidTests := true, laidLooks := .later }
def ParcelWholeUptoCardSaid : Prop := Claim7.holds Tryd.pinned (.plain (OpenSpec.upto parcelWholeSpec)) parcelWholeUptoCard

/-- THE SECOND FORM's CARD OF 'shalelaw18.ParcelFewer'. -/
def parcelFewerUptoCard : Claim7 := { stood := { row := parcelFewerUptoRow, standIns := [], harness := (true, "832d6b8b261212fab6e7bfe798e93582ccd88fedcc61f2a5fa3701a849f5e32c"), looks := true }, kinds := [], alts := [], laidByText := true, laidKinds := [.data, .called, .pinned], laidTests := true, laidLooks := .later }
def ParcelFewerUptoCardSaid : Prop := Claim7.holds Tryd.pinned (.plain (OpenSpec.upto parcelFewerSpec)) parcelFewerUptoCard
end Rows
end Go.Proofs.YtdiifegljonojaaDoor
