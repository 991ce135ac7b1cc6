/-
  DERIVED. GIVEN WITH THE SEED: THE CARDS: each row of YtkihkcdlbpkmcaaGreatDoorRows.lean that lists a variable, with what it lists TIED to the program's text (the seventh form; the later family's looks); each row that meets fmt, with fmt's text TOLD by the authors' own Lean function (tested against real Go, not proved from fmt's source: count such statements apart). THE CARD IS WHAT COUNTS. Prove the row's statement (the work); the ties are given (YtkihkcdlbpkmcaaGreatDoorTie.lean); close each card by the builder's one call (the guide's Derived/Test/ToyasCard.lean, 'card_holds'). Laid BY PROGRAM, IN A SANDBOX (cutbox-door.mjs). By AI agents, Wed Nov 11 2026. No macro, syntax, notation, axiom, sorry.
-/
import Derived.Test.YtkihkcdlbpkmcaaGreatDoorRows
import GoSem.ClaimSeven
namespace Go.Proofs.YtkihkcdlbpkmcaaGreatDoor
namespace Rows

/-- THE TIED CARD OF 'laws.FnExactEntryAt'. -/
def fnExactEntryAtCard : Claim7 := { stood := { row := fnExactEntryAtRow, standIns := [], harness := (true, "e087ffafaed67d67ab481b67fa8b44f56b0eb48e79b11867c33aeef1e9edfc9b"), looks := false }, kinds := [], alts := [], laidByText := true, laidKinds := [.data, .pinned], laidTests := true, laidLooks := .later }
def FnExactEntryAtCardSaid : Prop := Claim7.holds Tryz.pinned (.plain (OpenSpec.ofChange fnExactEntryAtSpec)) fnExactEntryAtCard

/-- THE SECOND FORM's CARD OF 'laws.FnExactEntryAt'. -/
def fnExactEntryAtUptoCard : Claim7 := { stood := { row := fnExactEntryAtUptoRow, standIns := [], harness := (true, "e087ffafaed67d67ab481b67fa8b44f56b0eb48e79b11867c33aeef1e9edfc9b"), looks := false }, kinds := [], alts := [], laidByText := true, laidKinds := [.data, .pinned], laidTests := true, laidLooks := .later }
def FnExactEntryAtUptoCardSaid : Prop := Claim7.holds Tryz.pinned (.plain (OpenSpec.upto fnExactEntryAtSpec)) fnExactEntryAtUptoCard
end Rows
end Go.Proofs.YtkihkcdlbpkmcaaGreatDoor
