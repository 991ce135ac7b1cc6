/- spec.l05Encode, spec.EncodeFm, spec.EncodeMfm -/
import Derived.Test.YtkdhhkoablmbbabBit05
import Derived.Test.YtkdhhkoablmbbabConv
import Derived.Test.YtkdhhkoablmbbabDigitsOf
namespace Go.Proofs.Ytkdhhkoablmbbab
open Go.RowKit
set_option linter.unusedVariables false
def encV (s : ByteArray) (last mfm : Bool) : ByteArray := if s.size ≤ 500 then ⟨(encS s last mfm (8 * s.size)).toArray⟩ else ⟨#[]⟩
theorem cell_int (b : Bool) : ((if b then 49 else 48 : Int)).toNat.toUInt8 = cellB b := by cases b <;> rfl
end Go.Proofs.Ytkdhhkoablmbbab
