/-
  DERIVED. GIVEN WITH THE SEED: THE CARDS: each row of YtffefhgemmjkoaaDoorRows.lean that lists a variable, with what it lists TIED to the program's text (the seventh form; the later family's looks); each row that meets fmt, with fmt's text TOLD by the authors' own Lean function (tested against real Go, not proved from fmt's source: count such statements apart). THE CARD IS WHAT COUNTS. Prove the row's statement (the work); the ties are given (YtffefhgemmjkoaaDoorTie.lean); close each card by the builder's one call (the guide's Derived/Test/ToyasCard.lean, 'card_holds'). Laid BY PROGRAM, IN A SANDBOX (cutbox-door.mjs). By AI agents, Wed Nov 11 2026. No macro, syntax, notation, axiom, sorry.
-/
import Derived.Test.YtffefhgemmjkoaaDoorRows
import GoSem.ClaimSeven
namespace Go.Proofs.YtffefhgemmjkoaaDoor
namespace Rows

/-- THE TIED CARD OF 'laws.FnExactMarkCells'. -/
def fnExactMarkCellsCard : Claim7 := { stood := { row := fnExactMarkCellsRow, standIns := [], harness := (true, "1ee4a763a634b6b2a03a5b83f50f3ab2a9f2da162baa99940a472c40083aff11"), looks := false }, kinds := [], alts := [], laidByText := true, laidKinds := [.data, .data, .data], laidTests := true, laidLooks := .later }
def FnExactMarkCellsCardSaid : Prop := Claim7.holds Tryd.pinned (.plain (OpenSpec.ofChange fnExactMarkCellsSpec)) fnExactMarkCellsCard

/-- THE TIED CARD OF 'laws.FnExactIdField'. -/
def fnExactIdFieldCard : Claim7 := { stood := { row := fnExactIdFieldRow, standIns := [], harness := (true, "1ee4a763a634b6b2a03a5b83f50f3ab2a9f2da162baa99940a472c40083aff11"), looks := false }, kinds := [], alts := [], laidByText := true, laidKinds := [.data, .data, .wider], laidTests := true, laidLooks := .later }
def FnExactIdFieldCardSaid : Prop := Claim7.holds Tryd.pinned (.plain (OpenSpec.ofChange fnExactIdFieldSpec)) fnExactIdFieldCard

/-- THE TIED CARD OF 'laws.FnExactDataField'. -/
def fnExactDataFieldCard : Claim7 := { stood := { row := fnExactDataFieldRow, standIns := [], harness := (true, "1ee4a763a634b6b2a03a5b83f50f3ab2a9f2da162baa99940a472c40083aff11"), looks := false }, kinds := [], alts := [], laidByText := true, laidKinds := [.data, .data, .wider], laidTests := true, laidLooks := .later }
def FnExactDataFieldCardSaid : Prop := Claim7.holds Tryd.pinned (.plain (OpenSpec.ofChange fnExactDataFieldSpec)) fnExactDataFieldCard

/-- THE TIED CARD OF 'laws.FnExactDecodeGcr'. -/
def fnExactDecodeGcrCard : Claim7 := { stood := { row := fnExactDecodeGcrRow, standIns := [], harness := (true, "1ee4a763a634b6b2a03a5b83f50f3ab2a9f2da162baa99940a472c40083aff11"), looks := false }, kinds := [], alts := [], laidByText := true, laidKinds := [.data], laidTests := true, laidLooks := .later }
def FnExactDecodeGcrCardSaid : Prop := Claim7.holds Tryd.pinned (.plain (OpenSpec.ofChange fnExactDecodeGcrSpec)) fnExactDecodeGcrCard

/-- THE TIED CARD OF 'laws.FnGcr'. -/
def fnGcrCard : Claim7 := { stood := { row := fnGcrRow, standIns := [], harness := (true, "1ee4a763a634b6b2a03a5b83f50f3ab2a9f2da162baa99940a472c40083aff11"), looks := false }, kinds := [], alts := [], laidByText := true, laidKinds := [.data], laidTests := true, laidLooks := .later }
def FnGcrCardSaid : Prop := Claim7.holds Tryd.pinned (.plain (OpenSpec.ofChange fnGcrSpec)) fnGcrCard

/-- THE TIED CARD OF 'laws.FnExactSectorCells'. -/
def fnExactSectorCellsCard : Claim7 := { stood := { row := fnExactSectorCellsRow, standIns := [], harness := (true, "1ee4a763a634b6b2a03a5b83f50f3ab2a9f2da162baa99940a472c40083aff11"), looks := false }, kinds := [], alts := [], laidByText := true, laidKinds := [.data, .data, .data, .wider], laidTests := true, laidLooks := .later }
def FnExactSectorCellsCardSaid : Prop := Claim7.holds Tryd.pinned (.plain (OpenSpec.ofChange fnExactSectorCellsSpec)) fnExactSectorCellsCard

/-- THE TIED CARD OF 'laws.FnExactRawBytes'. -/
def fnExactRawBytesCard : Claim7 := { stood := { row := fnExactRawBytesRow, standIns := [], harness := (true, "1ee4a763a634b6b2a03a5b83f50f3ab2a9f2da162baa99940a472c40083aff11"), looks := false }, kinds := [], alts := [], laidByText := true, laidKinds := [.data], laidTests := true, laidLooks := .later }
def FnExactRawBytesCardSaid : Prop := Claim7.holds Tryd.pinned (.plain (OpenSpec.ofChange fnExactRawBytesSpec)) fnExactRawBytesCard

/-- THE SECOND FORM's CARD OF 'laws.FnExactMarkCells'. -/
def fnExactMarkCellsUptoCard : Claim7 := { stood := { row := fnExactMarkCellsUptoRow, standIns := [], harness := (true, "1ee4a763a634b6b2a03a5b83f50f3ab2a9f2da162baa99940a472c40083aff11"), looks := false }, kinds := [], alts := [], laidByText := true, laidKinds := [.data, .data, .data], laidTests := true, laidLooks := .later }
def FnExactMarkCellsUptoCardSaid : Prop := Claim7.holds Tryd.pinned (.plain (OpenSpec.upto fnExactMarkCellsSpec)) fnExactMarkCellsUptoCard

/-- THE SECOND FORM's CARD OF 'laws.FnExactIdField'. -/
def fnExactIdFieldUptoCard : Claim7 := { stood := { row := fnExactIdFieldUptoRow, standIns := [], harness := (true, "1ee4a763a634b6b2a03a5b83f50f3ab2a9f2da162baa99940a472c40083aff11"), looks := false }, kinds := [], alts := [], laidByText := true, laidKinds := [.data, .data, .wider], laidTests := true, laidLooks := .later }
def FnExactIdFieldUptoCardSaid : Prop := Claim7.holds Tryd.pinned (.plain (OpenSpec.upto fnExactIdFieldSpec)) fnExactIdFieldUptoCard

/-- THE SECOND FORM's CARD OF 'laws.FnExactDataField'. -/
def fnExactDataFieldUptoCard : Claim7 := { stood := { row := fnExactDataFieldUptoRow, standIns := [], harness := (true, "1ee4a763a634b6b2a03a5b83f50f3ab2a9f2da162baa99940a472c40083aff11"), looks := false }, kinds := [], alts := [], laidByText := true, laidKinds := [.data, .data, .wider], laidTests := true, laidLooks := .later }
def FnExactDataFieldUptoCardSaid : Prop := Claim7.holds Tryd.pinned (.plain (OpenSpec.upto fnExactDataFieldSpec)) fnExactDataFieldUptoCard

/-- THE SECOND FORM's CARD OF 'laws.FnExactDecodeGcr'. -/
def fnExactDecodeGcrUptoCard : Claim7 := { stood := { row := fnExactDecodeGcrUptoRow, standIns := [], harness := (true, "1ee4a763a634b6b2a03a5b83f50f3ab2a9f2da162baa99940a472c40083aff11"), looks := false }, kinds := [], alts := [], laidByText := true, laidKinds := [.data], laidTests := true, laidLooks := .later }
def FnExactDecodeGcrUptoCardSaid : Prop := Claim7.holds Tryd.pinned (.plain (OpenSpec.upto fnExactDecodeGcrSpec)) fnExactDecodeGcrUptoCard

/-- THE SECOND FORM's CARD OF 'laws.FnGcr'. -/
def fnGcrUptoCard : Claim7 := { stood := { row := fnGcrUptoRow, standIns := [], harness := (true, "1ee4a763a634b6b2a03a5b83f50f3ab2a9f2da162baa99940a472c40083aff11"), looks := false }, kinds := [], alts := [], laidByText := true, laidKinds := [.data], laidTests := true, laidLooks := .later }
def FnGcrUptoCardSaid : Prop := Claim7.holds Tryd.pinned (.plain (OpenSpec.upto fnGcrSpec)) fnGcrUptoCard

/-- THE SECOND FORM's CARD OF 'laws.FnExactSectorCells'. -/
def fnExactSectorCellsUptoCard : Claim7 := { stood := { row := fnExactSectorCellsUptoRow, standIns := [], harness := (true, "1ee4a763a634b6b2a03a5b83f50f3ab2a9f2da162baa99940a472c40083aff11"), looks := false }, kinds := [], alts := [], laidByText := true, laidKinds := [.data, .data, .data, .wider], laidTests := true, laidLooks := .later }
def FnExactSectorCellsUptoCardSaid : Prop := Claim7.holds Tryd.pinned (.plain (OpenSpec.upto fnExactSectorCellsSpec)) fnExactSectorCellsUptoCard

/-- THE SECOND FORM's CARD OF 'laws.FnExactRawBytes'. -/
def fnExactRawBytesUptoCard : Claim7 := { stood := { row := fnExactRawBytesUptoRow, standIns := [], harness := (true, "1ee4a763a634b6b2a03a5b83f50f3ab2a9f2da162baa99940a472c40083aff11"), looks := false }, kinds := [], alts := [], laidByText := true, laidKinds := [.data], laidTests := true, laidLooks := .later }
def FnExactRawBytesUptoCardSaid : Prop := Claim7.holds Tryd.pinned (.plain (OpenSpec.upto fnExactRawBytesSpec)) fnExactRawBytesUptoCard
end Rows
end Go.Proofs.YtffefhgemmjkoaaDoor
