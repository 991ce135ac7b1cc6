/- impl.LastBit, spec.LastBit, impl.MfmMark, spec.MfmMark -/
import Derived.Test.YtffefhgemmjkoaaCellStr
import Derived.Test.YtffefhgemmjkoaaConv
namespace Go.Proofs.Ytffefhgemmjkoaa
open Go.RowKit
set_option linter.unusedVariables false
/-- The last data bit. -/
def lastB (s : ByteArray) : Bool := if h : 0 < s.size then decide (s[s.size - 1].toNat % 2 = 1) else false
theorem bit0 (c : Nat) (h : c < 256) : (bits .and .u8 (c : Int) 1 == 1) = decide (c % 2 = 1) := by
  rw [show bits .and .u8 (c : Int) 1 = (c : Int) % 2 from bits_mask .u8 8 (by decide) wraps_u8 1 (by decide) (c : Int) (by omega) (by omega)]
  by_cases h : c % 2 = 1
  · simp [h]; omega
  · simp [h]; omega
/-- The cells of the mark byte A1. -/
def mfmMarkS : ByteArray := ⟨#[48, 49, 48, 48, 48, 49, 48, 48, 49, 48, 48, 48, 49, 48, 48, 49]⟩
end Go.Proofs.Ytffefhgemmjkoaa
