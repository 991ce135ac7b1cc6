/-
  DERIVED. GIVEN WITH THE SEED: THE CARDS: each row of YtjifiibaodjflabDoorRows.lean that lists a variable, with what it lists TIED to the program's text (the seventh form; the later family's looks); each row that meets fmt, with fmt's text TOLD by the authors' own Lean function (tested against real Go, not proved from fmt's source: count such statements apart). THE CARD IS WHAT COUNTS. Prove the row's statement (the work); the ties are given (YtjifiibaodjflabDoorTie.lean); close each card by the builder's one call (the guide's Derived/Test/ToyasCard.lean, 'card_holds'). Laid BY PROGRAM, IN A SANDBOX (cutbox-door.mjs). By AI agents, Wed Nov 11 2026. No macro, syntax, notation, axiom, sorry.
-/
import Derived.Test.YtjifiibaodjflabDoorRows
import GoSem.ClaimSeven
namespace Go.Proofs.YtjifiibaodjflabDoor
namespace Rows

/-- THE TIED CARD OF 'laws.FnExactMarkCells'. -/
def fnExactMarkCellsCard : Claim7 := { stood := { row := fnExactMarkCellsRow, standIns := [], harness := (true, "0d99edc252ea2ca05ce8fec9b0d71762519aa1d211a1a1c2b56ad703a9c58821"), looks := false }, kinds := [], alts := [], laidByText := true, laidKinds := [.data, .data, .data], laidTests := true, laidLooks := .later }
def FnExactMarkCellsCardSaid : Prop := Claim7.holds Tryd.pinned (.plain (OpenSpec.ofChange fnExactMarkCellsSpec)) fnExactMarkCellsCard

/-- THE TIED CARD OF 'laws.FnExactEncodeBytes'. -/
def fnExactEncodeBytesCard : Claim7 := { stood := { row := fnExactEncodeBytesRow, standIns := [], harness := (true, "0d99edc252ea2ca05ce8fec9b0d71762519aa1d211a1a1c2b56ad703a9c58821"), looks := false }, kinds := [], alts := [], laidByText := true, laidKinds := [.data, .wider], laidTests := true, laidLooks := .later }
def FnExactEncodeBytesCardSaid : Prop := Claim7.holds Tryd.pinned (.plain (OpenSpec.ofChange fnExactEncodeBytesSpec)) fnExactEncodeBytesCard

/-- THE TIED CARD OF 'laws.FnExactIdField'. -/
def fnExactIdFieldCard : Claim7 := { stood := { row := fnExactIdFieldRow, standIns := [], harness := (true, "0d99edc252ea2ca05ce8fec9b0d71762519aa1d211a1a1c2b56ad703a9c58821"), looks := false }, kinds := [], alts := [], laidByText := true, laidKinds := [.data, .data, .wider], laidTests := true, laidLooks := .later }
def FnExactIdFieldCardSaid : Prop := Claim7.holds Tryd.pinned (.plain (OpenSpec.ofChange fnExactIdFieldSpec)) fnExactIdFieldCard

/-- THE TIED CARD OF 'laws.FnExactDataField'. -/
def fnExactDataFieldCard : Claim7 := { stood := { row := fnExactDataFieldRow, standIns := [], harness := (true, "0d99edc252ea2ca05ce8fec9b0d71762519aa1d211a1a1c2b56ad703a9c58821"), looks := false }, kinds := [], alts := [], laidByText := true, laidKinds := [.data, .data, .wider], laidTests := true, laidLooks := .later }
def FnExactDataFieldCardSaid : Prop := Claim7.holds Tryd.pinned (.plain (OpenSpec.ofChange fnExactDataFieldSpec)) fnExactDataFieldCard

/-- THE TIED CARD OF 'laws.FnExactSectorCells'. -/
def fnExactSectorCellsCard : Claim7 := { stood := { row := fnExactSectorCellsRow, standIns := [], harness := (true, "0d99edc252ea2ca05ce8fec9b0d71762519aa1d211a1a1c2b56ad703a9c58821"), looks := false }, kinds := [], alts := [], laidByText := true, laidKinds := [.data, .data, .data, .wider], laidTests := true, laidLooks := .later }
def FnExactSectorCellsCardSaid : Prop := Claim7.holds Tryd.pinned (.plain (OpenSpec.ofChange fnExactSectorCellsSpec)) fnExactSectorCellsCard

/-- THE TIED CARD OF 'laws.FnExactNearestGcr'. -/
def fnExactNearestGcrCard : Claim7 := { stood := { row := fnExactNearestGcrRow, standIns := [], harness := (true, "0d99edc252ea2ca05ce8fec9b0d71762519aa1d211a1a1c2b56ad703a9c58821"), looks := false }, kinds := [], alts := [], laidByText := true, laidKinds := [.data], laidTests := true, laidLooks := .later }
def FnExactNearestGcrCardSaid : Prop := Claim7.holds Tryd.pinned (.plain (OpenSpec.ofChange fnExactNearestGcrSpec)) fnExactNearestGcrCard

/-- THE TIED CARD OF 'laws.FnExactRepairGcr'. -/
def fnExactRepairGcrCard : Claim7 := { stood := { row := fnExactRepairGcrRow, standIns := [], harness := (true, "0d99edc252ea2ca05ce8fec9b0d71762519aa1d211a1a1c2b56ad703a9c58821"), looks := false }, kinds := [], alts := [], laidByText := true, laidKinds := [.data], laidTests := true, laidLooks := .later }
def FnExactRepairGcrCardSaid : Prop := Claim7.holds Tryd.pinned (.plain (OpenSpec.ofChange fnExactRepairGcrSpec)) fnExactRepairGcrCard

/-- THE TIED CARD OF 'laws.FnGcrRepair'. -/
def fnGcrRepairCard : Claim7 := { stood := { row := fnGcrRepairRow, standIns := [], harness := (true, "0d99edc252ea2ca05ce8fec9b0d71762519aa1d211a1a1c2b56ad703a9c58821"), looks := false }, kinds := [], alts := [], laidByText := true, laidKinds := [.data], laidTests := true, laidLooks := .later }
def FnGcrRepairCardSaid : Prop := Claim7.holds Tryd.pinned (.plain (OpenSpec.ofChange fnGcrRepairSpec)) fnGcrRepairCard

/-- THE SECOND FORM's CARD OF 'laws.FnExactMarkCells'. -/
def fnExactMarkCellsUptoCard : Claim7 := { stood := { row := fnExactMarkCellsUptoRow, standIns := [], harness := (true, "0d99edc252ea2ca05ce8fec9b0d71762519aa1d211a1a1c2b56ad703a9c58821"), looks := false }, kinds := [], alts := [], laidByText := true, laidKinds := [.data, .data, .data], laidTests := true, laidLooks := .later }
def FnExactMarkCellsUptoCardSaid : Prop := Claim7.holds Tryd.pinned (.plain (OpenSpec.upto fnExactMarkCellsSpec)) fnExactMarkCellsUptoCard

/-- THE SECOND FORM's CARD OF 'laws.FnExactEncodeBytes'. -/
def fnExactEncodeBytesUptoCard : Claim7 := { stood := { row := fnExactEncodeBytesUptoRow, standIns := [], harness := (true, "0d99edc252ea2ca05ce8fec9b0d71762519aa1d211a1a1c2b56ad703a9c58821"), looks := false }, kinds := [], alts := [], laidByText := true, laidKinds := [.data, .wider], laidTests := true, laidLooks := .later }
def FnExactEncodeBytesUptoCardSaid : Prop := Claim7.holds Tryd.pinned (.plain (OpenSpec.upto fnExactEncodeBytesSpec)) fnExactEncodeBytesUptoCard

/-- THE SECOND FORM's CARD OF 'laws.FnExactIdField'. -/
def fnExactIdFieldUptoCard : Claim7 := { stood := { row := fnExactIdFieldUptoRow, standIns := [], harness := (true, "0d99edc252ea2ca05ce8fec9b0d71762519aa1d211a1a1c2b56ad703a9c58821"), looks := false }, kinds := [], alts := [], laidByText := true, laidKinds := [.data, .data, .wider], laidTests := true, laidLooks := .later }
def FnExactIdFieldUptoCardSaid : Prop := Claim7.holds Tryd.pinned (.plain (OpenSpec.upto fnExactIdFieldSpec)) fnExactIdFieldUptoCard

/-- THE SECOND FORM's CARD OF 'laws.FnExactDataField'. -/
def fnExactDataFieldUptoCard : Claim7 := { stood := { row := fnExactDataFieldUptoRow, standIns := [], harness := (true, "0d99edc252ea2ca05ce8fec9b0d71762519aa1d211a1a1c2b56ad703a9c58821"), looks := false }, kinds := [], alts := [], laidByText := true, laidKinds := [.data, .data, .wider], laidTests := true, laidLooks := .later }
def FnExactDataFieldUptoCardSaid : Prop := Claim7.holds Tryd.pinned (.plain (OpenSpec.upto fnExactDataFieldSpec)) fnExactDataFieldUptoCard

/-- THE SECOND FORM's CARD OF 'laws.FnExactSectorCells'. -/
def fnExactSectorCellsUptoCard : Claim7 := { stood := { row := fnExactSectorCellsUptoRow, standIns := [], harness := (true, "0d99edc252ea2ca05ce8fec9b0d71762519aa1d211a1a1c2b56ad703a9c58821"), looks := false }, kinds := [], alts := [], laidByText := true, laidKinds := [.data, .data, .data, .wider], laidTests := true, laidLooks := .later }
def FnExactSectorCellsUptoCardSaid : Prop := Claim7.holds Tryd.pinned (.plain (OpenSpec.upto fnExactSectorCellsSpec)) fnExactSectorCellsUptoCard

/-- THE SECOND FORM's CARD OF 'laws.FnExactNearestGcr'. -/
def fnExactNearestGcrUptoCard : Claim7 := { stood := { row := fnExactNearestGcrUptoRow, standIns := [], harness := (true, "0d99edc252ea2ca05ce8fec9b0d71762519aa1d211a1a1c2b56ad703a9c58821"), looks := false }, kinds := [], alts := [], laidByText := true, laidKinds := [.data], laidTests := true, laidLooks := .later }
def FnExactNearestGcrUptoCardSaid : Prop := Claim7.holds Tryd.pinned (.plain (OpenSpec.upto fnExactNearestGcrSpec)) fnExactNearestGcrUptoCard

/-- THE SECOND FORM's CARD OF 'laws.FnExactRepairGcr'. -/
def fnExactRepairGcrUptoCard : Claim7 := { stood := { row := fnExactRepairGcrUptoRow, standIns := [], harness := (true, "0d99edc252ea2ca05ce8fec9b0d71762519aa1d211a1a1c2b56ad703a9c58821"), looks := false }, kinds := [], alts := [], laidByText := true, laidKinds := [.data], laidTests := true, laidLooks := .later }
def FnExactRepairGcrUptoCardSaid : Prop := Claim7.holds Tryd.pinned (.plain (OpenSpec.upto fnExactRepairGcrSpec)) fnExactRepairGcrUptoCard

/-- THE SECOND FORM's CARD OF 'laws.FnGcrRepair'. -/
def fnGcrRepairUptoCard : Claim7 := { stood := { row := fnGcrRepairUptoRow, standIns := [], harness := (true, "0d99edc252ea2ca05ce8fec9b0d71762519aa1d211a1a1c2b56ad703a9c58821"), looks := false }, kinds := [], alts := [], laidByText := true, laidKinds := [.data], laidTests := true, laidLooks := .later }
def FnGcrRepairUptoCardSaid : Prop := Claim7.holds Tryd.pinned (.plain (OpenSpec.upto fnGcrRepairSpec)) fnGcrRepairUptoCard
end Rows
end Go.Proofs.YtjifiibaodjflabDoor
