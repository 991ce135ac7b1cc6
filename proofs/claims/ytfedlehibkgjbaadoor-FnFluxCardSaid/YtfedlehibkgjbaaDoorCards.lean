/-
  DERIVED. GIVEN WITH THE SEED: THE CARDS: each row of YtfedlehibkgjbaaDoorRows.lean that lists a variable, with what it lists TIED to the program's text (the seventh form; the later family's looks); each row that meets fmt, with fmt's text TOLD by the authors' own Lean function (tested against real Go, not proved from fmt's source: count such statements apart). THE CARD IS WHAT COUNTS. Prove the row's statement (the work); the ties are given (YtfedlehibkgjbaaDoorTie.lean); close each card by the builder's one call (the guide's Derived/Test/ToyasCard.lean, 'card_holds'). Laid BY PROGRAM, IN A SANDBOX (cutbox-door.mjs). By AI agents, Wed Nov 11 2026. No macro, syntax, notation, axiom, sorry.
-/
import Derived.Test.YtfedlehibkgjbaaDoorRows
import GoSem.ClaimSeven
namespace Go.Proofs.YtfedlehibkgjbaaDoor
namespace Rows

/-- THE TIED CARD OF 'laws.FnExactReadFlux'. -/
def fnExactReadFluxCard : Claim7 := { stood := { row := fnExactReadFluxRow, standIns := [], harness := (true, "10495729359942b26e8ddc6191345ce586f5db9618c88b73aeddb17814d359aa"), looks := false }, kinds := [], alts := [], laidByText := true, laidKinds := [.data, .data, .data], laidTests := true, laidLooks := .later }
def FnExactReadFluxCardSaid : Prop := Claim7.holds Tryd.pinned (.plain (OpenSpec.ofChange fnExactReadFluxSpec)) fnExactReadFluxCard

/-- THE TIED CARD OF 'laws.FnFlux'. -/
def fnFluxCard : Claim7 := { stood := { row := fnFluxRow, standIns := [], harness := (true, "10495729359942b26e8ddc6191345ce586f5db9618c88b73aeddb17814d359aa"), looks := false }, kinds := [], alts := [], laidByText := true, laidKinds := [.data, .data, .data], laidTests := true, laidLooks := .later }
def FnFluxCardSaid : Prop := Claim7.holds Tryd.pinned (.plain (OpenSpec.ofChange fnFluxSpec)) fnFluxCard

/-- THE SECOND FORM's CARD OF 'laws.FnExactReadFlux'. -/
def fnExactReadFluxUptoCard : Claim7 := { stood := { row := fnExactReadFluxUptoRow, standIns := [], harness := (true, "10495729359942b26e8ddc6191345ce586f5db9618c88b73aeddb17814d359aa"), looks := false }, kinds := [], alts := [], laidByText := true, laidKinds := [.data, .data, .data], laidTests := true, laidLooks := .later }
def FnExactReadFluxUptoCardSaid : Prop := Claim7.holds Tryd.pinned (.plain (OpenSpec.upto fnExactReadFluxSpec)) fnExactReadFluxUptoCard

/-- THE SECOND FORM's CARD OF 'laws.FnFlux'. -/
def fnFluxUptoCard : Claim7 := { stood := { row := fnFluxUptoRow, standIns := [], harness := (true, "10495729359942b26e8ddc6191345ce586f5db9618c88b73aeddb17814d359aa"), looks := false }, kinds := [], alts := [], laidByText := true, laidKinds := [.data, .data, .data], laidTests := true, laidLooks := .later }
def FnFluxUptoCardSaid : Prop := Claim7.holds Tryd.pinned (.plain (OpenSpec.upto fnFluxSpec)) fnFluxUptoCard
end Rows
end Go.Proofs.YtfedlehibkgjbaaDoor
