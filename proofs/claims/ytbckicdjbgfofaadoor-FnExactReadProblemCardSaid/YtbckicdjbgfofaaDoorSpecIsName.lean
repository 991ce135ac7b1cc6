/- spec.IsName, spec.l01Letter, spec.l01Digit -/
import Derived.Test.YtbckicdjbgfofaaDoorIsName
namespace Go.Proofs.YtbckicdjbgfofaaDoor
open Go.RowKit
set_option linter.unusedVariables false
/-- A byte of a name, wherever it stands. -/
def okAny (c : Nat) : Bool := (decide (65 ≤ c) && decide (c ≤ 90)) || (decide (c = 95) || (decide (48 ≤ c) && decide (c ≤ 57)))
theorem okAt_any {i c : Nat} (h : okAny c = false) : okAt i c = false := by
  unfold okAny at h; unfold okAt
  simp only [Bool.or_eq_false_iff] at h ⊢
  simp [h]
theorem okAt_first {i c : Nat} (h : okAny c = true) (hi : i = 0 → (65 ≤ c ∧ c ≤ 90)) : okAt i c = true := by
  unfold okAny at h; unfold okAt
  simp only [Bool.or_eq_true, Bool.and_eq_true, decide_eq_true_eq] at h ⊢
  by_cases hz : i = 0
  · exact .inl (hi hz)
  · rcases h with h | h
    · exact .inl h
    · exact .inr ⟨by omega, h⟩
end Go.Proofs.YtbckicdjbgfofaaDoor
