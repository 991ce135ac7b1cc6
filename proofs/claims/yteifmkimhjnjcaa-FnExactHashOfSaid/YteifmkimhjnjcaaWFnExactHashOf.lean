import Derived.Test.YteifmkimhjnjcaaHashOf
namespace Go.Proofs.Yteifmkimhjnjcaa.fnExactHashOf
open Go.RowKit
set_option linter.unusedVariables false
set_option maxHeartbeats 400000 in
theorem walk (a0 : ByteArray) (w : World) (w0 : a0.size ≤ maxLen) :
    Calls Try.prog 3 #[.string a0] w fun e w' => e = .returned (.bool true) ∧ Below w.heap.size w w' := by
  have hs := w0
  unfold maxLen at hs
  by_cases hl : 1048576 < a0.size
  · go_enter Try.func3, Try.ntmps3
    go_wp2
    go_ret
    exact ⟨rfl, Below.refl _ _⟩
  · have h20 : a0.size ≤ 1048576 := by omega
    go_enter Try.func3, Try.ntmps3
    go_wp2_with (first | (go_at_call 6; refine (specHashOf_any _ _ h20).mono ?_; rintro e w1 ⟨rfl, rfl⟩) | (go_at_call 7; refine (hashOf_any _ _ h20).mono ?_; rintro e w2 ⟨rfl, hb2⟩))
    go_ret
    exact ⟨rfl, hb2⟩
end Go.Proofs.Yteifmkimhjnjcaa.fnExactHashOf
