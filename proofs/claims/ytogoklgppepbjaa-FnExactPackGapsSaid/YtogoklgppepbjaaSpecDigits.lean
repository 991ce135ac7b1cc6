/- spec.l01Hex, spec.l01Bits and the functions over them, by wip/tools/gen_specdigits.py -/
import Derived.Test.YtogoklgppepbjaaDigitsOf
namespace Go.Proofs.Ytogoklgppepbjaa
open Go.RowKit
set_option linter.unusedVariables false
theorem hexd_bit {n : Nat} (h : n < 2) : ((48 : Int) + n).toNat.toUInt8 = hexd n := by
  have : n = 0 ∨ n = 1 := by omega
  rcases this with rfl | rfl <;> rfl
def hexTextS (s : ByteArray) : ByteArray := if 4096 < s.size then ⟨#[]⟩ else ⟨(digits4 s.data.toList).toArray⟩
theorem hexTextS_big {s : ByteArray} (h : 4096 < s.size) : hexTextS s = ⟨#[]⟩ := by unfold hexTextS; rw [if_pos h]
theorem hexTextS_ok {s : ByteArray} (h : ¬ 4096 < s.size) : hexTextS s = ⟨(digits4 s.data.toList).toArray⟩ := by unfold hexTextS; rw [if_neg h]
def bitsOfS (s : ByteArray) : ByteArray := if 4096 < s.size then ⟨#[]⟩ else ⟨(digits1 s.data.toList).toArray⟩
theorem bitsOfS_big {s : ByteArray} (h : 4096 < s.size) : bitsOfS s = ⟨#[]⟩ := by unfold bitsOfS; rw [if_pos h]
theorem bitsOfS_ok {s : ByteArray} (h : ¬ 4096 < s.size) : bitsOfS s = ⟨(digits1 s.data.toList).toArray⟩ := by unfold bitsOfS; rw [if_neg h]
end Go.Proofs.Ytogoklgppepbjaa
