/-
  DERIVED. GIVEN WITH THE SEED: THE CARDS: each row of YtifbfppfnlhcbaaDoorRows.lean that lists a variable, with what it lists TIED to the program's text (the seventh form; the later family's looks); each row that meets fmt, with fmt's text TOLD by the authors' own Lean function (tested against real Go, not proved from fmt's source: count such statements apart). THE CARD IS WHAT COUNTS. Prove the row's statement (the work); the ties are given (YtifbfppfnlhcbaaDoorTie.lean); close each card by the builder's one call (the guide's Derived/Test/ToyasCard.lean, 'card_holds'). Laid BY PROGRAM, IN A SANDBOX (cutbox-door.mjs). By AI agents, Wed Nov 11 2026. No macro, syntax, notation, axiom, sorry.
-/
import Derived.Test.YtifbfppfnlhcbaaDoorRows
import GoSem.ClaimSeven
namespace Go.Proofs.YtifbfppfnlhcbaaDoor
namespace Rows

/-- THE TIED CARD OF 'laws.FnExactFluxText'. -/
def fnExactFluxTextCard : Claim7 := { stood := { row := fnExactFluxTextRow, standIns := [], harness := (true, "1e71c0091b18835e0daea3938ade8cefaf367a775d14703be25a8ad11c52fbae"), looks := false }, kinds := [], alts := [], laidByText := true, laidKinds := [.data, .data, .data], laidTests := true, laidLooks := .later }
def FnExactFluxTextCardSaid : Prop := Claim7.holds Tryd.pinned (.plain (OpenSpec.ofChange fnExactFluxTextSpec)) fnExactFluxTextCard

/-- THE TIED CARD OF 'laws.FnExactReadFlux'. -/
def fnExactReadFluxCard : Claim7 := { stood := { row := fnExactReadFluxRow, standIns := [], harness := (true, "1e71c0091b18835e0daea3938ade8cefaf367a775d14703be25a8ad11c52fbae"), looks := false }, kinds := [], alts := [], laidByText := true, laidKinds := [.data, .data, .data], laidTests := true, laidLooks := .later }
def FnExactReadFluxCardSaid : Prop := Claim7.holds Tryd.pinned (.plain (OpenSpec.ofChange fnExactReadFluxSpec)) fnExactReadFluxCard

/-- THE TIED CARD OF 'laws.FnFlux'. -/
def fnFluxCard : Claim7 := { stood := { row := fnFluxRow, standIns := [], harness := (true, "1e71c0091b18835e0daea3938ade8cefaf367a775d14703be25a8ad11c52fbae"), looks := false }, kinds := [], alts := [], laidByText := true, laidKinds := [.data, .data, .data], laidTests := true, laidLooks := .later }
def FnFluxCardSaid : Prop := Claim7.holds Tryd.pinned (.plain (OpenSpec.ofChange fnFluxSpec)) fnFluxCard

/-- THE SECOND FORM's CARD OF 'laws.FnExactFluxText'. -/
def fnExactFluxTextUptoCard : Claim7 := { stood := { row := fnExactFluxTextUptoRow, standIns := [], harness := (true, "1e71c0091b18835e0daea3938ade8cefaf367a775d14703be25a8ad11c52fbae"), looks := false }, kinds := [], alts := [], laidByText := true, laidKinds := [.data, .data, .data], laidTests := true, laidLooks := .later }
def FnExactFluxTextUptoCardSaid : Prop := Claim7.holds Tryd.pinned (.plain (OpenSpec.upto fnExactFluxTextSpec)) fnExactFluxTextUptoCard

/-- THE SECOND FORM's CARD OF 'laws.FnExactReadFlux'. -/
def fnExactReadFluxUptoCard : Claim7 := { stood := { row := fnExactReadFluxUptoRow, standIns := [], harness := (true, "1e71c0091b18835e0daea3938ade8cefaf367a775d14703be25a8ad11c52fbae"), looks := false }, kinds := [], alts := [], laidByText := true, laidKinds := [.data, .data, .data], laidTests := true, laidLooks := .later }
def FnExactReadFluxUptoCardSaid : Prop := Claim7.holds Tryd.pinned (.plain (OpenSpec.upto fnExactReadFluxSpec)) fnExactReadFluxUptoCard

/-- THE SECOND FORM's CARD OF 'laws.FnFlux'. -/
def fnFluxUptoCard : Claim7 := { stood := { row := fnFluxUptoRow, standIns := [], harness := (true, "1e71c0091b18835e0daea3938ade8cefaf367a775d14703be25a8ad11c52fbae"), looks := false }, kinds := [], alts := [], laidByText := true, laidKinds := [.data, .data, .data], laidTests := true, laidLooks := .later }
def FnFluxUptoCardSaid : Prop := Claim7.holds Tryd.pinned (.plain (OpenSpec.upto fnFluxSpec)) fnFluxUptoCard
end Rows
end Go.Proofs.YtifbfppfnlhcbaaDoor
