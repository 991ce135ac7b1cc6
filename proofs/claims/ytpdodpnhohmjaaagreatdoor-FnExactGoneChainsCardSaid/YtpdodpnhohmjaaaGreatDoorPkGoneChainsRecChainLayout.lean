/- The struct ChainLayout and slices of it: laws.szChainLayoutS, laws.toChainLayout, laws.toChainLayoutS, laws.eqChainLayout, laws.eqChainLayoutS, laws.markChainLayoutS, laws.heldChainLayoutS -/
import Derived.Test.YtpdodpnhohmjaaaGreatDoorPkGoneChainsB
namespace Go.Proofs.YtpdodpnhohmjaaaGreatDoor
open Go.RowKit Go.ChangeShapes Go.WideShapes Go.ChangeAt Go.Joins Go.Deep
set_option linter.unusedVariables false
set_option linter.unusedSimpArgs false
set_option maxRecDepth 20000
structure ChainLayoutV where
  f0 : Int
  f1 : Int
  f2 : Int
  f3 : Int
  f4 : Int
def rowChainLayout (e : ChainLayoutV) : List Value := [.int .i64 e.f0, .int .i64 e.f1, .int .i64 e.f2, .int .i64 e.f3, .int .i64 e.f4]
def zeroChainLayout : List Value := [.int .i64 0, .int .i64 0, .int .i64 0, .int .i64 0, .int .i64 0]
theorem rowChainLayout_len (e : ChainLayoutV) : (rowChainLayout e).length = 5 := rfl
theorem infoChainLayout : (Tryz.prog.info? 40).map (fun i => (i.zero, i.size, i.bytes)) = some (some (.agg zeroChainLayout.toArray), 5, 40) := by kernel_rfl
def wtChainLayout (es : List ChainLayoutV) : Nat := es.length
theorem wtChainLayout_len (es : List ChainLayoutV) : es.length ≤ wtChainLayout es := Nat.le_refl _
def sameChainLayout (x y : ChainLayoutV) : Bool := (x.f0 == y.f0) && (x.f1 == y.f1) && (x.f2 == y.f2) && (x.f3 == y.f3) && (x.f4 == y.f4)
theorem sameChainLayout_iff {x y : ChainLayoutV} : sameChainLayout x y = true ↔ x = y := by
  cases x; cases y
  simp [sameChainLayout, and_assoc]
end Go.Proofs.YtpdodpnhohmjaaaGreatDoor
