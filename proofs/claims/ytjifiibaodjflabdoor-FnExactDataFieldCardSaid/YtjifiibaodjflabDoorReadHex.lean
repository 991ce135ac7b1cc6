/- impl.ReadHex, impl.BytesOf, spec.ReadHex, spec.BytesOf -/
import Derived.Test.YtjifiibaodjflabDoorOfDigits
import Derived.Test.YtjifiibaodjflabDoorSpecIsName
namespace Go.Proofs.YtjifiibaodjflabDoor
open Go.RowKit
set_option maxRecDepth 20000
set_option linter.unusedVariables false
theorem ofDig_none {p : Int} {e : Nat} {f : Nat → Int} {s : ByteArray} (h : ¬ (s.size % e = 0 ∧ s.size ≤ 4096 * e)) : ofDig p e f s = none := by unfold ofDig; rw [if_neg h]
theorem ofDig_bad {p : Int} {e : Nat} {f : Nat → Int} {s : ByteArray} (h : digOk f s s.size = false) : ofDig p e f s = none := by
  unfold ofDig
  split
  · rw [h]; rfl
  · rfl
theorem ofDigText_parts (r : Option (List UInt8)) : ∃ t b, ofDigText r = .tuple #[.string t, .bool b] := ⟨_, _, rfl⟩
end Go.Proofs.YtjifiibaodjflabDoor
