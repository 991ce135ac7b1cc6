/- spec.l12Ok, spec.ValidDisc -/
import Derived.Test.YthcbekfgkbhpeaaDoorPkFormatChainsDiscSpec
import Derived.Test.YthcbekfgkbhpeaaDoorPkFormatChainsDiscOkN
namespace Go.Proofs.YthcbekfgkbhpeaaDoor
open Go.RowKit
set_option maxRecDepth 20000
set_option linter.unusedVariables false
set_option linter.unusedSimpArgs false
set_option maxRecDepth 20000
end Go.Proofs.YthcbekfgkbhpeaaDoor
