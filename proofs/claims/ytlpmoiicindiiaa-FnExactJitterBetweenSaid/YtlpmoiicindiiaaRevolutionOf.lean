/- impl.RevolutionOf, spec.l02Revolution, spec.RevolutionOf -/
import Derived.Test.YtlpmoiicindiiaaSpecOk
namespace Go.Proofs.Ytlpmoiicindiiaa
open Go.RowKit
set_option linter.unusedVariables false
def revOf (c f : Int) (zs : List Int) : Int := if fluxOk c f zs = true then zs.sum else -1
end Go.Proofs.Ytlpmoiicindiiaa
