/- laws.szFlux, laws.toFlux, laws.eqFlux. -/
import Derived.Test.YtpgcmgbflcdjiaaLawSl
namespace Go.Proofs.Ytpgcmgbflcdjiaa
open Go.RowKit
set_option linter.unusedVariables false
def ToFluxPost (cl f : Int) (zs : List Int) (w : World) (e : Ending) (w' : World) : Prop :=
  ∃ g, e = .returned (.agg #[.int .i64 cl, .int .i64 f, .slice (some ⟨g, 0, none⟩) zs.length zs.length]) ∧ RowAt w' g zs ∧ w.heap.size ≤ g ∧ Below w.heap.size w w'
/-- Whether two fluxes are equal, field by field. -/
def fluxEq (c1 f1 : Int) (xs : List Int) (c2 f2 : Int) (ys : List Int) : Bool := c1 == c2 && (f1 == f2 && xs == ys)
end Go.Proofs.Ytpgcmgbflcdjiaa
