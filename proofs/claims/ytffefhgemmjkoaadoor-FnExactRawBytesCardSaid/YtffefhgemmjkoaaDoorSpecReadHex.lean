/- spec.ReadHex -/
import Derived.Test.YtffefhgemmjkoaaDoorReadHex
namespace Go.Proofs.YtffefhgemmjkoaaDoor
open Go.RowKit
set_option maxRecDepth 20000
set_option linter.unusedVariables false
theorem accV_two (d : Nat → Int) (k : Nat) (h0 : 0 ≤ d k) (h1 : d k < 16) (h2 : 0 ≤ d (k + 1)) (h3 : d (k + 1) < 16) : accV 16 d (k + 2) = 16 * d k + d (k + 1) := by
  show ((accV 16 d k * 16 + d k) % 256 * 16 + d (k + 1)) % 256 = _
  generalize accV 16 d k = v
  omega
theorem accO_two (d : Nat → Int) (j : Nat) : accO 16 2 d (2 * (j + 1)) = accO 16 2 d (2 * j) ++ [(accV 16 d (2 * j + 2)).toNat.toUInt8] := by
  show (if (2 * j + 1 + 1) % 2 = 0 then accO 16 2 d (2 * j + 1) ++ _ else _) = _
  rw [if_pos (by omega)]
  show (if (2 * j + 1) % 2 = 0 then _ else accO 16 2 d (2 * j)) ++ _ = _
  rw [if_neg (by omega)]
  rfl
end Go.Proofs.YtffefhgemmjkoaaDoor
