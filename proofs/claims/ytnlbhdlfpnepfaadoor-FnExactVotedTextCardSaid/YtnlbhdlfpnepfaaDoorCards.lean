/-
  DERIVED. GIVEN WITH THE SEED: THE CARDS: each row of YtnlbhdlfpnepfaaDoorRows.lean that lists a variable, with what it lists TIED to the program's text (the seventh form; the later family's looks); each row that meets fmt, with fmt's text TOLD by the authors' own Lean function (tested against real Go, not proved from fmt's source: count such statements apart). THE CARD IS WHAT COUNTS. Prove the row's statement (the work); the ties are given (YtnlbhdlfpnepfaaDoorTie.lean); close each card by the builder's one call (the guide's Derived/Test/ToyasCard.lean, 'card_holds'). Laid BY PROGRAM, IN A SANDBOX (cutbox-door.mjs). By AI agents, Wed Nov 11 2026. No macro, syntax, notation, axiom, sorry.
-/
import Derived.Test.YtnlbhdlfpnepfaaDoorRows
import GoSem.ClaimSeven
namespace Go.Proofs.YtnlbhdlfpnepfaaDoor
namespace Rows

/-- THE TIED CARD OF 'laws.FnExactVotedText'. -/
def fnExactVotedTextCard : Claim7 := { stood := { row := fnExactVotedTextRow, standIns := [], harness := (true, "ff3e9d767cd6272b20e5963bed1159c932dccfef82d887faea4b193c9982e5ec"), looks := false }, kinds := [], alts := [], laidByText := true, laidKinds := [.data, .data, .data], laidTests := true, laidLooks := .later }
def FnExactVotedTextCardSaid : Prop := Claim7.holds Tryd.pinned (.plain (OpenSpec.ofChange fnExactVotedTextSpec)) fnExactVotedTextCard

/-- THE SECOND FORM's CARD OF 'laws.FnExactVotedText'. -/
def fnExactVotedTextUptoCard : Claim7 := { stood := { row := fnExactVotedTextUptoRow, standIns := [], harness := (true, "ff3e9d767cd6272b20e5963bed1159c932dccfef82d887faea4b193c9982e5ec"), looks := false }, kinds := [], alts := [], laidByText := true, laidKinds := [.data, .data, .data], laidTests := true, laidLooks := .later }
def FnExactVotedTextUptoCardSaid : Prop := Claim7.holds Tryd.pinned (.plain (OpenSpec.upto fnExactVotedTextSpec)) fnExactVotedTextUptoCard
end Rows
end Go.Proofs.YtnlbhdlfpnepfaaDoor
