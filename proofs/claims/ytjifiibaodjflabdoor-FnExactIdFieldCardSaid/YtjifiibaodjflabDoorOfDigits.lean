/- impl.ofDigits at 1 and at 4 bits a digit, by wip/tools/gen_ofdigits.py -/
import Derived.Test.YtjifiibaodjflabDoorIndexRune
import Derived.Test.YtjifiibaodjflabDoorDigVal
import Derived.Test.YtjifiibaodjflabDoorIsName
import Derived.Lib.BufferWrite
namespace Go.Proofs.YtjifiibaodjflabDoor
open Go.RowKit
set_option maxRecDepth 20000
set_option linter.unusedVariables false
theorem or1_at : ∀ (v : Fin 256) (d : Fin 2), bits .or .u8 ((v.val : Int) * 2 % 256) (d.val : Int) = ((v.val : Int) * 2 + d.val) % 256 := by decide +kernel
theorem or1_any {v d : Int} (h0 : 0 ≤ v) (h1 : v < 256) (h2 : 0 ≤ d) (h3 : d < 2) : bits .or .u8 (v * 2 % 256) d = (v * 2 + d) % 256 := by
  have := or1_at ⟨v.toNat, by omega⟩ ⟨d.toNat, by omega⟩
  simp only at this
  rw [Int.toNat_of_nonneg h0, Int.toNat_of_nonneg h2] at this
  exact this
theorem or4_at : ∀ (v : Fin 256) (d : Fin 16), bits .or .u8 ((v.val : Int) * 16 % 256) (d.val : Int) = ((v.val : Int) * 16 + d.val) % 256 := by decide +kernel
theorem or4_any {v d : Int} (h0 : 0 ≤ v) (h1 : v < 256) (h2 : 0 ≤ d) (h3 : d < 16) : bits .or .u8 (v * 16 % 256) d = (v * 16 + d) % 256 := by
  have := or4_at ⟨v.toNat, by omega⟩ ⟨d.toNat, by omega⟩
  simp only at this
  rw [Int.toNat_of_nonneg h0, Int.toNat_of_nonneg h2] at this
  exact this
end Go.Proofs.YtjifiibaodjflabDoor
