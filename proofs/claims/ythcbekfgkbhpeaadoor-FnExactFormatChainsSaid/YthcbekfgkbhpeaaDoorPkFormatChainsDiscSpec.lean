/- spec.l01Zeros, spec.l12Geometry, spec.l12Bytes, spec.l12Sector, spec.l12Ok, spec.ValidDisc -/
import Derived.Test.YthcbekfgkbhpeaaDoorPkFormatChainsDiscVal
import Derived.Test.YthcbekfgkbhpeaaDoorPkFormatChainsEqSector
import Derived.Deep.RegionHeld3
import Derived.BigRegion
import Derived.BigQuiet
namespace Go.Proofs.YthcbekfgkbhpeaaDoor
open Go.RowKit
set_option maxRecDepth 20000
set_option linter.unusedVariables false
set_option linter.unusedSimpArgs false
set_option maxRecDepth 20000
end Go.Proofs.YthcbekfgkbhpeaaDoor
