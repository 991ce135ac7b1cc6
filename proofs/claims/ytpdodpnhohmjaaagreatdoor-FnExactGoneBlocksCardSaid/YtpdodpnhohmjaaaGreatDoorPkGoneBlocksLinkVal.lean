/- Links of a disk with chains, in pure words. -/
import Derived.Test.YtpdodpnhohmjaaaGreatDoorPkGoneBlocksChOpen
namespace Go.Proofs.YtpdodpnhohmjaaaGreatDoor
open Go.RowKit
set_option maxRecDepth 20000
set_option linter.unusedVariables false
/-- The link of block k. -/
def lnkB (es : List StringV) (k : Nat) : UInt8 := (flatL es).getD (len0 es + k) 0
def lnk (es : List StringV) (k : Nat) : Nat := (lnkB es k).toNat
def lkC (es : List StringV) (b : Int) : Int := if chCode es = 0 then (if inB 0 ((es.length : Int) - 1) b = true then 0 else 2) else chCode es
def lkV (es : List StringV) (b : Int) : Int := if lkC es b = 0 then (lnk es b.toNat : Int) else 0
theorem lnk_at {es : List StringV} (h : diskB es = true) {k : Nat} (hk : k < es.length) : (flatL es)[len0 es + k]? = some (lnkB es k) ∧ len0 es + k + 1 ≤ es.length * len0 es ∧ (flatL es).length = es.length * len0 es := by
  obtain ⟨hn, hall, hz⟩ := diskB_facts h
  have hl := flatL_len hall
  have h1 : len0 es + k + 1 ≤ es.length * len0 es := by
    rcases hz with hz | hz | hz <;> rw [hz] <;> omega
  refine ⟨?_, h1, hl⟩
  unfold lnkB
  rw [List.getD_eq_getElem?_getD, List.getElem?_eq_getElem (by omega)]
  rfl
end Go.Proofs.YtpdodpnhohmjaaaGreatDoor
