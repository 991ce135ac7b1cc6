/- impl.StartClock, spec.StartClock -/
import Derived.Test.YtidedgcmpkahgaaPlainClock
import Derived.Test.YtidedgcmpkahgaaBoxes
namespace Go.Proofs.Ytidedgcmpkahgaa
open Go.RowKit
set_option linter.unusedVariables false
end Go.Proofs.Ytidedgcmpkahgaa
