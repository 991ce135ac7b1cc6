/- spec.l00Has: is a number among some? -/
import Derived.Test.YtommbiddbgageaaPkFormatExtentsSlRes
import Derived.Test.YtommbiddbgageaaPkFormatExtentsA
namespace Go.Proofs.Ytommbiddbgageaa
open Go.RowKit
set_option linter.unusedVariables false
/-- Is the number among them? -/
def hasB (ys : List Int) (t : Int) : Bool := ys.contains t
theorem hasB_yes {ys : List Int} {t : Int} {k : Nat} (h : ys[k]? = some t) : hasB ys t = true := by
  unfold hasB; simpa using List.mem_of_getElem? h
theorem hasB_no {ys : List Int} {t : Int} (h : (ys.take ys.length).contains t = false) : hasB ys t = false := by
  unfold hasB; rw [List.take_length] at h; exact h
end Go.Proofs.Ytommbiddbgageaa
