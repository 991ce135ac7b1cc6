/- The struct Sector and slices of it: laws.szSectorS, laws.toSector, laws.toSectorS, laws.eqSector, laws.eqSectorS -/
import Derived.Test.YthcbekfgkbhpeaaDoorPkFormatChainsB
namespace Go.Proofs.YthcbekfgkbhpeaaDoor
open Go.RowKit Go.ChangeShapes Go.WideShapes Go.ChangeAt Go.Joins Go.Deep
set_option linter.unusedVariables false
set_option linter.unusedSimpArgs false
structure SectorV where
  f0 : ByteArray
  f1 : Int
def rowSector (e : SectorV) : List Value := [.string e.f0, .int .i64 e.f1]
def zeroSector : List Value := [.string ByteArray.empty, .int .i64 0]
theorem rowSector_len (e : SectorV) : (rowSector e).length = 2 := rfl
def wtSector (es : List SectorV) : Nat := es.length + (es.map fun e => e.f0.size).sum
theorem wtSector_len (es : List SectorV) : es.length ≤ wtSector es := Nat.le_add_right _ _
theorem wtSector_at {es : List SectorV} {m : Nat} (h : wtSector es ≤ m) : ∀ e ∈ es, e.f0.size ≤ m := by
  intro e he
  unfold wtSector at h
  have : e.f0.size ≤ (es.map fun e => e.f0.size).sum := le_sum_of_mem (List.mem_map.2 ⟨e, he, rfl⟩)
  omega
def sameSector (x y : SectorV) : Bool := decide (x.f0 = y.f0) && (x.f1 == y.f1)
theorem sameSector_iff {x y : SectorV} : sameSector x y = true ↔ x = y := by
  cases x; cases y
  simp [sameSector, and_assoc]
end Go.Proofs.YthcbekfgkbhpeaaDoor
