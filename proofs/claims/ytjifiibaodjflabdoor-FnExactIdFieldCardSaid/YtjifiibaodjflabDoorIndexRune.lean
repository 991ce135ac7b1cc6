/- strings.IndexRune in a text of bytes below 128. -/
import Derived.Test.YtjifiibaodjflabDoorConv
import Derived.Test.YtjifiibaodjflabDoorShelf
import Derived.Lib.Bytealg
import Derived.Laws.Runes
import Derived.WalkMore
import Derived.WalkSmall
import Derived.Laws.RangeAny
import Derived.Laws.RangeString
namespace Go.Proofs.YtjifiibaodjflabDoor
open Go.RowKit
set_option maxRecDepth 20000
set_option linter.unusedVariables false
theorem indexByte_high (l : List UInt8) (hl : ∀ b ∈ l, b.toNat < 128) (c : UInt8) (hc : 128 ≤ c.toNat) : Lib.indexByte l c = -1 := by
  induction l with
  | nil => rfl
  | cons x l ih =>
    have hx := hl x (by simp)
    have hne : ¬ x = c := by intro e; rw [e] at hx; omega
    have := ih (fun b hb => hl b (by simp [hb]))
    simp [Lib.indexByte, hne, this]
end Go.Proofs.YtjifiibaodjflabDoor
