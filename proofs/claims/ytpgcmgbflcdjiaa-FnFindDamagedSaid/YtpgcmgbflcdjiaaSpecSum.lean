/- spec.Sum16. -/
import Derived.Test.YtpgcmgbflcdjiaaSum
namespace Go.Proofs.Ytpgcmgbflcdjiaa
open Go.RowKit
set_option linter.unusedVariables false
end Go.Proofs.Ytpgcmgbflcdjiaa
