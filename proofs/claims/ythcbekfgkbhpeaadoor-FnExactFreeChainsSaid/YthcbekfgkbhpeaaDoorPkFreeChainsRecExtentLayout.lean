/- The struct ExtentLayout and slices of it: laws.szExtentLayoutS, laws.toExtentLayout, laws.toExtentLayoutS, laws.eqExtentLayout, laws.eqExtentLayoutS, laws.markExtentLayoutS, laws.heldExtentLayoutS -/
import Derived.Test.YthcbekfgkbhpeaaDoorPkFreeChainsB
namespace Go.Proofs.YthcbekfgkbhpeaaDoor
open Go.RowKit Go.ChangeShapes Go.WideShapes Go.ChangeAt Go.Joins Go.Deep
set_option linter.unusedVariables false
set_option linter.unusedSimpArgs false
structure ExtentLayoutV where
  f0 : Int
  f1 : Int
  f2 : Int
  f3 : Int
def rowExtentLayout (e : ExtentLayoutV) : List Value := [.int .i64 e.f0, .int .i64 e.f1, .int .i64 e.f2, .int .i64 e.f3]
def zeroExtentLayout : List Value := [.int .i64 0, .int .i64 0, .int .i64 0, .int .i64 0]
theorem rowExtentLayout_len (e : ExtentLayoutV) : (rowExtentLayout e).length = 4 := rfl
def wtExtentLayout (es : List ExtentLayoutV) : Nat := es.length
theorem wtExtentLayout_len (es : List ExtentLayoutV) : es.length ≤ wtExtentLayout es := Nat.le_refl _
def sameExtentLayout (x y : ExtentLayoutV) : Bool := (x.f0 == y.f0) && (x.f1 == y.f1) && (x.f2 == y.f2) && (x.f3 == y.f3)
theorem sameExtentLayout_iff {x y : ExtentLayoutV} : sameExtentLayout x y = true ↔ x = y := by
  cases x; cases y
  simp [sameExtentLayout, and_assoc]
end Go.Proofs.YthcbekfgkbhpeaaDoor
