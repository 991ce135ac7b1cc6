/- Entries of a disk with chains, in pure words. -/
import Derived.Test.YtpdodpnhohmjaaaGreatDoorPkGoneBlocksD
import Derived.Test.YtpdodpnhohmjaaaGreatDoorPkGoneBlocksLinkVal
import Derived.Test.YtpdodpnhohmjaaaGreatDoorPkGoneBlocksDiskRd
namespace Go.Proofs.YtpdodpnhohmjaaaGreatDoor
open Go.RowKit
set_option maxRecDepth 20000
set_option linter.unusedVariables false
/-- The bytes of entry k. -/
def entL (es : List StringV) (k : Nat) : List UInt8 := cutL (flatL es) (chDir es.length (len0 es) * len0 es + k * 12) 12
def eaC (es : List StringV) (b : Int) : Int := if chCode es = 0 then (if inB 0 (((es.length / 8 : Nat) : Int) - 1) b = true then (if entOk (entL es b.toNat) = true then 0 else 7) else 2) else chCode es
def eaV (es : List StringV) (b : Int) : ChainEntryV := if eaC es b = 0 then entR (entL es b.toNat) else zeroE
theorem ent_at {es : List StringV} (h : diskB es = true) {k : Nat} (hk : k < es.length / 8) :
    chDir es.length (len0 es) * len0 es + k * 12 + 12 ≤ es.length * len0 es ∧ chDir es.length (len0 es) < es.length ∧ (entL es k).length = 12 ∧ (flatL es).length = es.length * len0 es := by
  obtain ⟨hn, hall, hz⟩ := diskB_facts h
  have hl := flatL_len hall
  have h1 : chDir es.length (len0 es) * len0 es + k * 12 + 12 ≤ es.length * len0 es := by
    unfold chDir
    rcases hz with hz | hz | hz <;> rw [hz] <;> omega
  have h2 : chDir es.length (len0 es) < es.length := by
    unfold chDir
    rcases hz with hz | hz | hz <;> rw [hz] <;> omega
  exact ⟨h1, h2, cutL_len (by rw [hl]; exact h1), hl⟩
end Go.Proofs.YtpdodpnhohmjaaaGreatDoor
