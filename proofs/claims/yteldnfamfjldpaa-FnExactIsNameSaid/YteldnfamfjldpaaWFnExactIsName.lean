import Derived.Test.YteldnfamfjldpaaSpecIsName
namespace Go.Proofs.Yteldnfamfjldpaa.fnExactIsName
open Go.RowKit
set_option linter.unusedVariables false
set_option maxHeartbeats 400000 in
theorem walk (a0 : ByteArray) (w : World) (w0 : a0.size ≤ maxLen) :
    Calls Try.prog 5 #[.string a0] w fun e w' => e = .returned (.bool true) ∧ Below w.heap.size w w' := by
  have hs := w0
  unfold maxLen at hs
  by_cases hl : 1048576 < a0.size
  · go_enter Try.func5, Try.ntmps5
    go_wp2
    go_ret
    exact ⟨rfl, Below.refl _ _⟩
  · have h20 : a0.size ≤ 1048576 := by omega
    go_enter Try.func5, Try.ntmps5
    go_wp2_with (first | (go_at_call 21; refine (specIsName_any _ _ w0).mono ?_; rintro e w1 ⟨rfl, rfl⟩) | (go_at_call 22; refine (isName_any _ _ w0).mono ?_; rintro e w2 ⟨rfl, hb2⟩))
    go_ret
    exact ⟨rfl, hb2⟩
end Go.Proofs.Yteldnfamfjldpaa.fnExactIsName
