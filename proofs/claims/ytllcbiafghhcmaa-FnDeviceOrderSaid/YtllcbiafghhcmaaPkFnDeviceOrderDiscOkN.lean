/- The bytes of a sector, three sizes. -/
import Derived.Test.YtllcbiafghhcmaaPkFnDeviceOrderDiscVal
namespace Go.Proofs.Ytllcbiafghhcmaa
open Go.RowKit
set_option linter.unusedVariables false
theorem secN_three {d : Int} (h : inB 0 2 d = true) : ∃ n : Nat, secN d = (n : Int) ∧ (secN d).toNat = n ∧ (n = 8 ∨ n = 16 ∨ n = 32) := by
  obtain ⟨h0, h1⟩ := inB_iff.1 h
  have hz : d = 0 ∨ d = 1 ∨ d = 2 := by omega
  rcases hz with rfl | rfl | rfl
  · exact ⟨8, rfl, rfl, .inl rfl⟩
  · exact ⟨16, rfl, rfl, .inr (.inl rfl)⟩
  · exact ⟨32, rfl, rfl, .inr (.inr rfl)⟩
end Go.Proofs.Ytllcbiafghhcmaa
