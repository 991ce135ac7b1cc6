/- The struct Disc, which has one slice: opened among the arguments; laws.szDisc, laws.toDisc, laws.eqDisc -/
import Derived.Test.YthcbekfgkbhpeaaDoorPkFormatChainsRecSector
import Derived.Test.YthcbekfgkbhpeaaDoorPkFormatChainsB
import Derived.Test.YthcbekfgkbhpeaaDoorPkFormatChainsRecSm
namespace Go.Proofs.YthcbekfgkbhpeaaDoor
open Go.RowKit Go.ChangeShapes Go.WideShapes Go.ChangeAt Go.Joins Go.Deep
set_option linter.unusedVariables false
set_option linter.unusedSimpArgs false
set_option maxRecDepth 20000
structure DiscV where
  f0 : Int
  f1 : Int
  f2 : Int
  f3 : Int
  f4 : List SectorV
def wtDisc (x : DiscV) : Nat := wtSector x.f4
theorem wtDisc_len (x : DiscV) : x.f4.length ≤ wtDisc x := wtSector_len _
/-- What the walk is told of a Disc that came in. -/
def ArgDisc (W : World) (a : Option Addr) (x : DiscV) : Prop := x.f4.length ≤ maxLen ∧ SlS rowSector W a x.f4 ∧ ∀ e ∈ x.f4, e.f0.size ≤ maxLen
theorem DiscV.ext' {x y : DiscV} (h : x.f0 = y.f0 ∧ x.f1 = y.f1 ∧ x.f2 = y.f2 ∧ x.f3 = y.f3 ∧ x.f4 = y.f4) : x = y := by
  obtain ⟨x0, x1, x2, x3, x4⟩ := x; obtain ⟨y0, y1, y2, y3, y4⟩ := y
  simpa using h
end Go.Proofs.YthcbekfgkbhpeaaDoor
