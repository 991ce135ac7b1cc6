/- The struct Delta and slices of it: laws.szDeltaS, laws.toDelta, laws.toDeltaS, laws.eqDelta, laws.eqDeltaS -/
import Derived.Test.YtpdodpnhohmjaaaGreatDoorPkGoneBlocksB
namespace Go.Proofs.YtpdodpnhohmjaaaGreatDoor
open Go.RowKit Go.ChangeShapes Go.WideShapes Go.ChangeAt Go.Joins Go.Deep
set_option linter.unusedVariables false
set_option linter.unusedSimpArgs false
structure DeltaV where
  f0 : Int
  f1 : ByteArray
def rowDelta (e : DeltaV) : List Value := [.int .i64 e.f0, .string e.f1]
def zeroDelta : List Value := [.int .i64 0, .string ByteArray.empty]
theorem rowDelta_len (e : DeltaV) : (rowDelta e).length = 2 := rfl
def wtDelta (es : List DeltaV) : Nat := es.length + (es.map fun e => e.f1.size).sum
theorem wtDelta_len (es : List DeltaV) : es.length ≤ wtDelta es := Nat.le_add_right _ _
theorem wtDelta_at {es : List DeltaV} {m : Nat} (h : wtDelta es ≤ m) : ∀ e ∈ es, e.f1.size ≤ m := by
  intro e he
  unfold wtDelta at h
  have : e.f1.size ≤ (es.map fun e => e.f1.size).sum := le_sum_of_mem (List.mem_map.2 ⟨e, he, rfl⟩)
  omega
def sameDelta (x y : DeltaV) : Bool := (x.f0 == y.f0) && decide (x.f1 = y.f1)
theorem sameDelta_iff {x y : DeltaV} : sameDelta x y = true ↔ x = y := by
  cases x; cases y
  simp [sameDelta, and_assoc]
end Go.Proofs.YtpdodpnhohmjaaaGreatDoor
