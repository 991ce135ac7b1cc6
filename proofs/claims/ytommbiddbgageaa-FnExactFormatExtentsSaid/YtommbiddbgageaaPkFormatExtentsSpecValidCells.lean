/- spec.l02Cells, spec.ValidCells -/
import Derived.Test.YtommbiddbgageaaPkFormatExtentsValidCells
namespace Go.Proofs.Ytommbiddbgageaa
open Go.RowKit
set_option linter.unusedVariables false
end Go.Proofs.Ytommbiddbgageaa
