/- What a walk is told of the powers of ten. -/
import Derived.Test.YtifbfppfnlhcbaaDoorDecText
namespace Go.Proofs.YtifbfppfnlhcbaaDoor
open Go.RowKit
set_option linter.unusedVariables false
def DecTab (w : World) : Prop := PowTab w
theorem DecTab.below {w w' : World} (h : DecTab w) (hb : Below w.heap.size w w') (_ : 0 < w.heap.size) : DecTab w' := PowTab.below h hb
end Go.Proofs.YtifbfppfnlhcbaaDoor
