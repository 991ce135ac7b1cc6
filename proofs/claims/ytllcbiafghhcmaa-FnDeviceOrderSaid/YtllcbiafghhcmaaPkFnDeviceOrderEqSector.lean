/- Slices of Sector compared by '!=': slices.Equal/impl.Sector -/
import Derived.Test.YtllcbiafghhcmaaPkFnDeviceOrderB
import Derived.Laws.StructEq
namespace Go.Proofs.Ytllcbiafghhcmaa
open Go.RowKit
set_option linter.unusedVariables false
set_option linter.unusedSimpArgs false
set_option maxRecDepth 20000
theorem heldSector : Try.prog.stoodInHeld 39 = false := by kernel_rfl
theorem toListIffSector {m s : ByteArray} : m.toList = s.toList ↔ m = s := by
  constructor
  · intro h
    rw [ByteArray.toList_eq, ByteArray.toList_eq] at h
    apply ByteArray.ext
    exact Array.toList_inj.1 h
  · rintro rfl; rfl
set_option maxHeartbeats 2000000 in
theorem neqSector (x y : SectorV) (w : World) : (binOp .neq 39 (.agg #[.string x.f0, .int .i64 x.f1]) (.agg #[.string y.f0, .int .i64 y.f1])).run Try.prog w = .ok (.bool (!(sameSector x y))) w := by
  rw [run_neq_struct]
  have e := run_equalIn_struct (P := Try.prog) w 9999 39 #[.string x.f0, .int .i64 x.f1] #[.string y.f0, .int .i64 y.f1] (by kernel_rfl) heldSector
  rw [e]
  simp only [Program.fieldsOf, Try.underlying39]
  simp [Op.eqFields, go_sem, Try.underlying9, Try.underlying2]
  try simp only [toListIffSector]
  unfold sameSector
  by_cases h0 : x.f0 = y.f0
  case neg => simp [h0]
  by_cases h1 : x.f1 = y.f1
  case neg => simp [h0, h1]
  simp [h0, h1]
end Go.Proofs.Ytllcbiafghhcmaa
