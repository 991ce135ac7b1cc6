/- impl.RotateCells -/
import Derived.Test.YtpgcmgbflcdjiaaValidCells
import Derived.Test.YtpgcmgbflcdjiaaRot
namespace Go.Proofs.Ytpgcmgbflcdjiaa
open Go.RowKit
set_option linter.unusedVariables false
theorem validCells_bd {s : ByteArray} (h : validCells s = true) : 0 < s.size ∧ s.size ≤ 8000 := by
  unfold validCells at h
  simp only [Bool.and_eq_true, inB_iff] at h
  omega
end Go.Proofs.Ytpgcmgbflcdjiaa
