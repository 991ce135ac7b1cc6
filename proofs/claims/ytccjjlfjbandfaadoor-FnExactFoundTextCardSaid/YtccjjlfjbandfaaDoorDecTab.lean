/- What a walk is told of the powers of ten. -/
import Derived.Test.YtccjjlfjbandfaaDoorDecText
namespace Go.Proofs.YtccjjlfjbandfaaDoor
open Go.RowKit
set_option linter.unusedVariables false
def DecTab (w : World) : Prop := PowTab w
theorem DecTab.below {w w' : World} (h : DecTab w) (hb : Below w.heap.size w w') (_ : 1 < w.heap.size) : DecTab w' := PowTab.below h hb
end Go.Proofs.YtccjjlfjbandfaaDoor
