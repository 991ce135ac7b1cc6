/- spec.l02Cells, spec.ValidCells -/
import Derived.Test.YtfedlehibkgjbaaDoorPkFnFluxB
namespace Go.Proofs.YtfedlehibkgjbaaDoor
open Go.RowKit
set_option linter.unusedVariables false
end Go.Proofs.YtfedlehibkgjbaaDoor
