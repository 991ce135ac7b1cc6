/-
  DERIVED. GIVEN WITH THE SEED: THE CARDS: each row of YtccjjlfjbandfaaDoorRows.lean that lists a variable, with what it lists TIED to the program's text (the seventh form; the later family's looks); each row that meets fmt, with fmt's text TOLD by the authors' own Lean function (tested against real Go, not proved from fmt's source: count such statements apart). THE CARD IS WHAT COUNTS. Prove the row's statement (the work); the ties are given (YtccjjlfjbandfaaDoorTie.lean); close each card by the builder's one call (the guide's Derived/Test/ToyasCard.lean, 'card_holds'). Laid BY PROGRAM, IN A SANDBOX (cutbox-door.mjs). By AI agents, Wed Nov 11 2026. No macro, syntax, notation, axiom, sorry.
-/
import Derived.Test.YtccjjlfjbandfaaDoorRows
import GoSem.ClaimSeven
namespace Go.Proofs.YtccjjlfjbandfaaDoor
namespace Rows

/-- THE TIED CARD OF 'laws.FnExactProblemText'. -/
def fnExactProblemTextCard : Claim7 := { stood := { row := fnExactProblemTextRow, standIns := [], harness := (true, "39bf152bfcfceae00203acc40b63cf285343e753efe09833cfd5e69cdbd56899"), looks := false }, kinds := [], alts := [], laidByText := true, laidKinds := [.data, .data, .data, .data], laidTests := true, laidLooks := .later }
def FnExactProblemTextCardSaid : Prop := Claim7.holds Tryd.pinned (.plain (OpenSpec.ofChange fnExactProblemTextSpec)) fnExactProblemTextCard

/-- THE TIED CARD OF 'laws.FnExactFoundText'. -/
def fnExactFoundTextCard : Claim7 := { stood := { row := fnExactFoundTextRow, standIns := [], harness := (true, "39bf152bfcfceae00203acc40b63cf285343e753efe09833cfd5e69cdbd56899"), looks := false }, kinds := [], alts := [], laidByText := true, laidKinds := [.data, .data, .data], laidTests := true, laidLooks := .later }
def FnExactFoundTextCardSaid : Prop := Claim7.holds Tryd.pinned (.plain (OpenSpec.ofChange fnExactFoundTextSpec)) fnExactFoundTextCard

/-- THE SECOND FORM's CARD OF 'laws.FnExactProblemText'. -/
def fnExactProblemTextUptoCard : Claim7 := { stood := { row := fnExactProblemTextUptoRow, standIns := [], harness := (true, "39bf152bfcfceae00203acc40b63cf285343e753efe09833cfd5e69cdbd56899"), looks := false }, kinds := [], alts := [], laidByText := true, laidKinds := [.data, .data, .data, .data], laidTests := true, laidLooks := .later }
def FnExactProblemTextUptoCardSaid : Prop := Claim7.holds Tryd.pinned (.plain (OpenSpec.upto fnExactProblemTextSpec)) fnExactProblemTextUptoCard

/-- THE SECOND FORM's CARD OF 'laws.FnExactFoundText'. -/
def fnExactFoundTextUptoCard : Claim7 := { stood := { row := fnExactFoundTextUptoRow, standIns := [], harness := (true, "39bf152bfcfceae00203acc40b63cf285343e753efe09833cfd5e69cdbd56899"), looks := false }, kinds := [], alts := [], laidByText := true, laidKinds := [.data, .data, .data], laidTests := true, laidLooks := .later }
def FnExactFoundTextUptoCardSaid : Prop := Claim7.holds Tryd.pinned (.plain (OpenSpec.upto fnExactFoundTextSpec)) fnExactFoundTextUptoCard
end Rows
end Go.Proofs.YtccjjlfjbandfaaDoor
