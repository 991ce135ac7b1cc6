/- impl.ValidFlux -/
import Derived.Test.YtpgcmgbflcdjiaaSum64
namespace Go.Proofs.Ytpgcmgbflcdjiaa
open Go.RowKit
set_option linter.unusedVariables false
/-- Is the flux valid? -/
def fluxOk (c f : Int) (zs : List Int) : Bool := inB 4 200 c && (inB 1 4000 (zs.length : Int) && (zs.all (inB 1 2000000) && (decide (zs.sum ≤ 2000000) && inB 0 (zs[zs.length - 1]?.getD 0 - 1) f)))
theorem fluxOk_iff {c f : Int} {zs : List Int} : fluxOk c f zs = true ↔ (4 ≤ c ∧ c ≤ 200) ∧ (1 ≤ zs.length ∧ zs.length ≤ 4000) ∧ zs.all (inB 1 2000000) = true ∧ zs.sum ≤ 2000000 ∧ (0 ≤ f ∧ f ≤ zs[zs.length - 1]?.getD 0 - 1) := by
  unfold fluxOk
  simp only [Bool.and_eq_true, inB_iff, decide_eq_true_eq]
  constructor
  · rintro ⟨h1, ⟨h2, h3⟩, h4, h5, h6⟩
    exact ⟨h1, ⟨by omega, by omega⟩, h4, h5, h6⟩
  · rintro ⟨h1, ⟨h2, h3⟩, h4, h5, h6⟩
    exact ⟨h1, ⟨by omega, by omega⟩, h4, h5, h6⟩
end Go.Proofs.Ytpgcmgbflcdjiaa
