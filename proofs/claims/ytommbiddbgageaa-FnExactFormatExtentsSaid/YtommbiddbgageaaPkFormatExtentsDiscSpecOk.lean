/- spec.l12Ok, spec.ValidDisc -/
import Derived.Test.YtommbiddbgageaaPkFormatExtentsDiscSpec
import Derived.Test.YtommbiddbgageaaPkFormatExtentsDiscOkN
namespace Go.Proofs.Ytommbiddbgageaa
open Go.RowKit
set_option linter.unusedVariables false
set_option linter.unusedSimpArgs false
set_option maxRecDepth 20000
end Go.Proofs.Ytommbiddbgageaa
