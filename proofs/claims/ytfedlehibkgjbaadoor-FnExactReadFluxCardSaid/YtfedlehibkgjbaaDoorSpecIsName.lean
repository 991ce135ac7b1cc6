/- spec.IsName, spec.l01Letter, spec.l01Digit -/
import Derived.Test.YtfedlehibkgjbaaDoorIsName
namespace Go.Proofs.YtfedlehibkgjbaaDoor
open Go.RowKit
set_option linter.unusedVariables false
set_option maxHeartbeats 400000 in
theorem digit_yes {c : Nat} (w : World) (h1 : 48 ≤ c) (h2 : c ≤ 57) : Calls Tryd.prog 41 #[.int .u8 c] w fun e w' => e = .returned (.bool true) ∧ w = w' := by
  go_enter Tryd.func41, Tryd.ntmps41
  go_wp2
  all_goals
    go_ret
    exact ⟨ret_bool (decide_eq_true (by omega)), rfl⟩
set_option maxHeartbeats 400000 in
theorem digit_no {c : Nat} (w : World) (h : ¬ (48 ≤ c ∧ c ≤ 57)) : Calls Tryd.prog 41 #[.int .u8 c] w fun e w' => e = .returned (.bool false) ∧ w = w' := by
  by_cases h1 : 48 ≤ c
  · have h2 : 57 < c := by omega
    clear h
    go_enter Tryd.func41, Tryd.ntmps41
    go_wp2
    all_goals
      go_ret
      exact ⟨ret_bool (decide_eq_false (by omega)), rfl⟩
  · clear h
    go_enter Tryd.func41, Tryd.ntmps41
    go_wp2
    all_goals
      go_ret
      exact ⟨rfl, rfl⟩
/-- A byte of a name, wherever it stands. -/
def okAny (c : Nat) : Bool := (decide (65 ≤ c) && decide (c ≤ 90)) || (decide (c = 95) || (decide (48 ≤ c) && decide (c ≤ 57)))
theorem okAt_any {i c : Nat} (h : okAny c = false) : okAt i c = false := by
  unfold okAny at h; unfold okAt
  simp only [Bool.or_eq_false_iff] at h ⊢
  simp [h]
theorem okAt_first {i c : Nat} (h : okAny c = true) (hi : i = 0 → (65 ≤ c ∧ c ≤ 90)) : okAt i c = true := by
  unfold okAny at h; unfold okAt
  simp only [Bool.or_eq_true, Bool.and_eq_true, decide_eq_true_eq] at h ⊢
  by_cases hz : i = 0
  · exact .inl (hi hz)
  · rcases h with h | h
    · exact .inl h
    · exact .inr ⟨by omega, h⟩
end Go.Proofs.YtfedlehibkgjbaaDoor
