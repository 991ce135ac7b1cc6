/- (impl.Disc).shaped, (impl.shapedDisc).valid, impl.ValidDisc -/
import Derived.Test.YthcbekfgkbhpeaaDoorPkFormatChainsDiscOk
import Derived.Deep.RegionHeld3
import Derived.BigRegion
namespace Go.Proofs.YthcbekfgkbhpeaaDoor
open Go.RowKit
set_option maxRecDepth 20000
set_option linter.unusedVariables false
set_option linter.unusedSimpArgs false
set_option maxRecDepth 20000
end Go.Proofs.YthcbekfgkbhpeaaDoor
