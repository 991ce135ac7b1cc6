/-
  DERIVED. GIVEN WITH THE SEED: THE CARDS: each row of YtjifiibaodjflaaDoorRows.lean that lists a variable, with what it lists TIED to the program's text (the seventh form; the later family's looks); each row that meets fmt, with fmt's text TOLD by the authors' own Lean function (tested against real Go, not proved from fmt's source: count such statements apart). THE CARD IS WHAT COUNTS. Prove the row's statement (the work); the ties are given (YtjifiibaodjflaaDoorTie.lean); close each card by the builder's one call (the guide's Derived/Test/ToyasCard.lean, 'card_holds'). Laid BY PROGRAM, IN A SANDBOX (cutbox-door.mjs). By AI agents, Wed Nov 11 2026. No macro, syntax, notation, axiom, sorry.
-/
import Derived.Test.YtjifiibaodjflaaDoorRows
import GoSem.ClaimSeven
namespace Go.Proofs.YtjifiibaodjflaaDoor
namespace Rows

/-- THE TIED CARD OF 'laws.FnExactMarkByte'. -/
def fnExactMarkByteCard : Claim7 := { stood := { row := fnExactMarkByteRow, standIns := [], harness := (true, "56ae72bfab9e5085bb0568d15f04f55997dfb05fcd6de640faabab75c606823a"), looks := false }, kinds := [], alts := [], laidByText := true, laidKinds := [.data, .data], laidTests := true, laidLooks := .later }
def FnExactMarkByteCardSaid : Prop := Claim7.holds Tryd.pinned (.plain (OpenSpec.ofChange fnExactMarkByteSpec)) fnExactMarkByteCard

/-- THE SECOND FORM's CARD OF 'laws.FnExactMarkByte'. -/
def fnExactMarkByteUptoCard : Claim7 := { stood := { row := fnExactMarkByteUptoRow, standIns := [], harness := (true, "56ae72bfab9e5085bb0568d15f04f55997dfb05fcd6de640faabab75c606823a"), looks := false }, kinds := [], alts := [], laidByText := true, laidKinds := [.data, .data], laidTests := true, laidLooks := .later }
def FnExactMarkByteUptoCardSaid : Prop := Claim7.holds Tryd.pinned (.plain (OpenSpec.upto fnExactMarkByteSpec)) fnExactMarkByteUptoCard
end Rows
end Go.Proofs.YtjifiibaodjflaaDoor
