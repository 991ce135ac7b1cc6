/- impl.EntryAt -/
import Derived.Test.YtpdodpnhohmjaaaGreatDoorPkGoneBlocksEntM
namespace Go.Proofs.YtpdodpnhohmjaaaGreatDoor
open Go.RowKit
set_option maxRecDepth 20000
set_option linter.unusedVariables false
set_option linter.unusedSimpArgs false
set_option maxRecDepth 20000
theorem eaC_bad {es : List StringV} {b : Int} (h : chCode es ≠ 0) : eaC es b = chCode es ∧ eaV es b = zeroE := by
  have e : eaC es b = chCode es := by unfold eaC; rw [if_neg h]
  exact ⟨e, by unfold eaV; rw [if_neg (by rw [e]; exact h)]⟩
theorem eaC_out {es : List StringV} {b : Int} (h : chCode es = 0) (hb : inB 0 (((es.length / 8 : Nat) : Int) - 1) b = false) : eaC es b = 2 ∧ eaV es b = zeroE := by
  have e : eaC es b = 2 := by unfold eaC; rw [if_pos h, if_neg (by rw [hb]; simp)]
  exact ⟨e, by unfold eaV; rw [if_neg (by rw [e]; omega)]⟩
theorem eaC_in {es : List StringV} {k : Nat} (h : chCode es = 0) (hb : inB 0 (((es.length / 8 : Nat) : Int) - 1) (k : Int) = true) : eaC es (k : Int) = (if entOk (entL es k) = true then 0 else 7) ∧ eaV es (k : Int) = entR (entL es k) := by
  have e : eaC es (k : Int) = (if entOk (entL es k) = true then 0 else 7) := by unfold eaC; rw [if_pos h, if_pos hb, Int.toNat_natCast]
  refine ⟨e, ?_⟩
  unfold eaV
  rw [e, Int.toNat_natCast]
  by_cases ho : entOk (entL es k) = true
  · rw [if_pos ho, if_pos rfl]
  · rw [if_neg ho, if_neg (by omega)]
    unfold entR
    rw [if_neg ho]
end Go.Proofs.YtpdodpnhohmjaaaGreatDoor
