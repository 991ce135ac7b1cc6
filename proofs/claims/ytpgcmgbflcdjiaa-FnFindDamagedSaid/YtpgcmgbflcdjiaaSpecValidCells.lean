/- spec.l02Cells, spec.ValidCells -/
import Derived.Test.YtpgcmgbflcdjiaaValidCells
namespace Go.Proofs.Ytpgcmgbflcdjiaa
open Go.RowKit
set_option linter.unusedVariables false
end Go.Proofs.Ytpgcmgbflcdjiaa
