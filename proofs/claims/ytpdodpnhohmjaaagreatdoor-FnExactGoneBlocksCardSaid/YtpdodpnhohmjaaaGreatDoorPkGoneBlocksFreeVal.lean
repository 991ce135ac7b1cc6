/- The free blocks of a disk with chains, in pure words. -/
import Derived.Test.YtpdodpnhohmjaaaGreatDoorPkGoneBlocksLinkVal
import Derived.Test.YtpdodpnhohmjaaaGreatDoorPkGoneBlocksA
namespace Go.Proofs.YtpdodpnhohmjaaaGreatDoor
open Go.RowKit
set_option maxRecDepth 20000
set_option linter.unusedVariables false
/-- The free blocks among those from d on, ahead of t. -/
def frL (es : List StringV) (d t : Nat) : List Int := ((List.range' d (t - d)).filter fun j : Nat => lnk es j == 0).map fun j : Nat => (j : Int)
theorem frL_nil (es : List StringV) (d : Nat) : frL es d d = [] := by unfold frL; simp
theorem frL_yes {es : List StringV} {d t : Nat} (h : d ≤ t) (hl : lnk es t = 0) : frL es d (t + 1) = frL es d t ++ [(t : Int)] := by
  unfold frL
  have e : t + 1 - d = (t - d) + 1 := by omega
  rw [e, List.range'_concat, List.filter_append, List.map_append]
  have e2 : d + 1 * (t - d) = t := by omega
  rw [e2]
  simp [hl]
theorem frL_no {es : List StringV} {d t : Nat} (h : d ≤ t) (hl : lnk es t ≠ 0) : frL es d (t + 1) = frL es d t := by
  unfold frL
  have e : t + 1 - d = (t - d) + 1 := by omega
  rw [e, List.range'_concat, List.filter_append, List.map_append]
  have e2 : d + 1 * (t - d) = t := by omega
  rw [e2]
  simp [hl]
theorem frL_len (es : List StringV) (d t : Nat) : (frL es d t).length ≤ t := by
  unfold frL
  rw [List.length_map]
  refine Nat.le_trans (List.length_filter_le _ _) ?_
  rw [List.length_range']
  omega
def chD (es : List StringV) : Nat := chData es.length (len0 es)
theorem chD_le {es : List StringV} (h : diskB es = true) : chD es ≤ es.length ∧ 2 ≤ chD es := by
  obtain ⟨hn, _, hz⟩ := diskB_facts h
  unfold chD chData chDir
  rcases hz with hz | hz | hz <;> rw [hz] <;> omega
def freeL (es : List StringV) : List Int := if chCode es = 0 then frL es (chD es) es.length else []
theorem freeL_len (es : List StringV) : (freeL es).length ≤ 1048576 := by
  unfold freeL
  split
  case isTrue h =>
    obtain ⟨hd, _⟩ := chCode_facts h
    have := (diskB_facts hd).1
    have := frL_len es (chD es) es.length
    omega
  case isFalse => simp
/-- Two results: a list of int64s of the call's own, and a code. -/
def IntsRes2 (l : List Int) (code : Int) (w : World) (e : Ending) (w' : World) : Prop :=
  ∃ a cap, e = .returned (.tuple #[.slice a l.length cap, .int .i64 code]) ∧ SlO w' w.heap.size a l ∧ Below w.heap.size w w'
end Go.Proofs.YtpdodpnhohmjaaaGreatDoor
