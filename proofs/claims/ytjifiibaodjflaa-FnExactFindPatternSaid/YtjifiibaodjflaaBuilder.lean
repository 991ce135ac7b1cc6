/- strings.Builder: copyCheck and WriteByte, for a builder that the call has made; String is laid. -/
import Derived.Test.YtjifiibaodjflaaConv
import Derived.Test.YtjifiibaodjflaaShelf
import Derived.Lib.Builder
import Derived.Laws.Externs
import Derived.StillTailTactics
namespace Go.Proofs.Ytjifiibaodjflaa
open Go.RowKit
set_option linter.unusedVariables false
end Go.Proofs.Ytjifiibaodjflaa
