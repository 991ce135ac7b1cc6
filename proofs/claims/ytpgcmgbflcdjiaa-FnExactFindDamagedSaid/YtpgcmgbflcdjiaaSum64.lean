/- (impl.times).sum -/
import Derived.Test.YtpgcmgbflcdjiaaSlices
namespace Go.Proofs.Ytpgcmgbflcdjiaa
open Go.RowKit
set_option linter.unusedVariables false
theorem sum_snoc {zs : List Int} {k : Nat} {x : Int} (h : zs[k]? = some x) : (zs.take (k + 1)).sum = (zs.take k).sum + x := by
  rw [List.take_add_one, h]; simp
theorem bd_of_all {zs : List Int} {lo hi : Int} (h : zs.all (inB lo hi) = true) {k : Nat} {x : Int} (hx : zs[k]? = some x) : lo ≤ x ∧ x ≤ hi := by
  rw [List.all_eq_true] at h
  exact inB_iff.1 (h x (List.mem_of_getElem? hx))
theorem sum_bd {zs : List Int} (h : zs.all (inB 1 2000000) = true) (k : Nat) : 0 ≤ (zs.take k).sum ∧ (zs.take k).sum ≤ 2000000 * (k : Int) := by
  induction k with
  | zero => simp
  | succ k ih =>
    by_cases hk : k < zs.length
    · obtain ⟨x, hx⟩ := getOf hk
      have := bd_of_all h hx
      rw [sum_snoc hx]; omega
    · rw [List.take_of_length_le (by omega), ← List.take_of_length_le (i := k) (by omega : zs.length ≤ k)]
      omega
end Go.Proofs.Ytpgcmgbflcdjiaa
