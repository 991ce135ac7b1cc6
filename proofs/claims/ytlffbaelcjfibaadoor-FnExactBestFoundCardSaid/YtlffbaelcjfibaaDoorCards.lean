/-
  DERIVED. GIVEN WITH THE SEED: THE CARDS: each row of YtlffbaelcjfibaaDoorRows.lean that lists a variable, with what it lists TIED to the program's text (the seventh form; the later family's looks); each row that meets fmt, with fmt's text TOLD by the authors' own Lean function (tested against real Go, not proved from fmt's source: count such statements apart). THE CARD IS WHAT COUNTS. Prove the row's statement (the work); the ties are given (YtlffbaelcjfibaaDoorTie.lean); close each card by the builder's one call (the guide's Derived/Test/ToyasCard.lean, 'card_holds'). Laid BY PROGRAM, IN A SANDBOX (cutbox-door.mjs). By AI agents, Wed Nov 11 2026. No macro, syntax, notation, axiom, sorry.
-/
import Derived.Test.YtlffbaelcjfibaaDoorRows
import GoSem.ClaimSeven
namespace Go.Proofs.YtlffbaelcjfibaaDoor
namespace Rows

/-- THE TIED CARD OF 'laws.FnExactBestFound'. -/
def fnExactBestFoundCard : Claim7 := { stood := { row := fnExactBestFoundRow, standIns := [], harness := (true, "26ae567f66e055630fa6a481bfb61b119585d48930f1b1251e7c6f14c517e679"), looks := false }, kinds := [], alts := [], laidByText := true, laidKinds := [.data], laidTests := true, laidLooks := .later }
def FnExactBestFoundCardSaid : Prop := Claim7.holds Tryd.pinned (.plain (OpenSpec.ofChange fnExactBestFoundSpec)) fnExactBestFoundCard

/-- THE SECOND FORM's CARD OF 'laws.FnExactBestFound'. -/
def fnExactBestFoundUptoCard : Claim7 := { stood := { row := fnExactBestFoundUptoRow, standIns := [], harness := (true, "26ae567f66e055630fa6a481bfb61b119585d48930f1b1251e7c6f14c517e679"), looks := false }, kinds := [], alts := [], laidByText := true, laidKinds := [.data], laidTests := true, laidLooks := .later }
def FnExactBestFoundUptoCardSaid : Prop := Claim7.holds Tryd.pinned (.plain (OpenSpec.upto fnExactBestFoundSpec)) fnExactBestFoundUptoCard
end Rows
end Go.Proofs.YtlffbaelcjfibaaDoor
