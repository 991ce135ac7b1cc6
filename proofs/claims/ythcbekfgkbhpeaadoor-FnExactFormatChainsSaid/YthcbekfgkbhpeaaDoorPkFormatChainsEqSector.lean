/- Slices of Sector compared by '!=': slices.Equal/impl.Sector -/
import Derived.Test.YthcbekfgkbhpeaaDoorPkFormatChainsRecSector
import Derived.Laws.StructEq
namespace Go.Proofs.YthcbekfgkbhpeaaDoor
open Go.RowKit
set_option maxRecDepth 20000
set_option linter.unusedVariables false
set_option linter.unusedSimpArgs false
set_option maxRecDepth 20000
theorem toListIffSector {m s : ByteArray} : m.toList = s.toList ↔ m = s := by
  constructor
  · intro h
    rw [ByteArray.toList_eq, ByteArray.toList_eq] at h
    apply ByteArray.ext
    exact Array.toList_inj.1 h
  · rintro rfl; rfl
end Go.Proofs.YthcbekfgkbhpeaaDoor
