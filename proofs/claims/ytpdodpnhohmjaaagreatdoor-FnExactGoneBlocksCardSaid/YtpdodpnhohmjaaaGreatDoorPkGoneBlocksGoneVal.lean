/- The deleted entries of a disk with chains, in pure words. -/
import Derived.Test.YtpdodpnhohmjaaaGreatDoorPkGoneBlocksEntPl
import Derived.Test.YtpdodpnhohmjaaaGreatDoorPkGoneBlocksFreeVal
namespace Go.Proofs.YtpdodpnhohmjaaaGreatDoor
open Go.RowKit
set_option maxRecDepth 20000
set_option linter.unusedVariables false
/-- Entry k is valid and deleted. -/
def goneB (es : List StringV) (k : Nat) : Bool := entOk (entL es k) && (entR (entL es k)).f4
theorem goneB_no {es : List StringV} {k : Nat} (h : goneB es k = false) : entOk (entL es k) = false ∨ (entOk (entL es k) = true ∧ (entR (entL es k)).f4 = false) := by
  unfold goneB at h
  cases h1 : entOk (entL es k) with
  | false => exact .inl rfl
  | true => rw [h1, Bool.true_and] at h; exact .inr ⟨rfl, h⟩
theorem goneB_yes {es : List StringV} {k : Nat} (h : goneB es k = true) : entOk (entL es k) = true ∧ (entR (entL es k)).f4 = true := by
  unfold goneB at h
  simpa using h
/-- The deleted entries ahead of t. -/
def gnL (es : List StringV) (t : Nat) : List Int := ((List.range t).filter fun j : Nat => goneB es j).map fun j : Nat => (j : Int)
theorem gnL_nil (es : List StringV) : gnL es 0 = [] := rfl
theorem gnL_yes {es : List StringV} {t : Nat} (hl : goneB es t = true) : gnL es (t + 1) = gnL es t ++ [(t : Int)] := by
  unfold gnL
  rw [List.range_succ, List.filter_append, List.map_append]
  simp [hl]
theorem gnL_no {es : List StringV} {t : Nat} (hl : goneB es t = false) : gnL es (t + 1) = gnL es t := by
  unfold gnL
  rw [List.range_succ, List.filter_append, List.map_append]
  simp [hl]
theorem gnL_len (es : List StringV) (t : Nat) : (gnL es t).length ≤ t := by
  unfold gnL
  rw [List.length_map]
  refine Nat.le_trans (List.length_filter_le _ _) ?_
  rw [List.length_range]
  omega
def goneL (es : List StringV) : List Int := if chCode es = 0 then gnL es (es.length / 8) else []
theorem goneL_len (es : List StringV) : (goneL es).length ≤ 1048576 := by
  unfold goneL
  split
  case isTrue h =>
    obtain ⟨hd, _⟩ := chCode_facts h
    have := (diskB_facts hd).1
    have := gnL_len es (es.length / 8)
    omega
  case isFalse => simp
end Go.Proofs.YtpdodpnhohmjaaaGreatDoor
