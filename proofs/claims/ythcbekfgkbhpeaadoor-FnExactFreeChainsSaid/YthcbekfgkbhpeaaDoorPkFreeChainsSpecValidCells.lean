/- spec.l02Cells, spec.ValidCells -/
import Derived.Test.YthcbekfgkbhpeaaDoorPkFreeChainsValidCells
namespace Go.Proofs.YthcbekfgkbhpeaaDoor
open Go.RowKit
set_option maxRecDepth 20000
set_option linter.unusedVariables false
end Go.Proofs.YthcbekfgkbhpeaaDoor
