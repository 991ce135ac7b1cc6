/- What a walk is told of the powers of ten. -/
import Derived.Test.YtnlbhdlfpnepfaaDoorDecText
namespace Go.Proofs.YtnlbhdlfpnepfaaDoor
open Go.RowKit
set_option linter.unusedVariables false
def DecTab (w : World) : Prop := PowTab w
theorem DecTab.below {w w' : World} (h : DecTab w) (hb : Below w.heap.size w w') (_ : 0 < w.heap.size) : DecTab w' := PowTab.below h hb
end Go.Proofs.YtnlbhdlfpnepfaaDoor
