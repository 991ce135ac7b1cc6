import Derived.Test.YteldnfamfjldpabSpecSum
namespace Go.Proofs.Yteldnfamfjldpab.fnExactSum16
open Go.RowKit
set_option maxHeartbeats 400000 in
theorem walk (a0 : ByteArray) (w : World) (w0 : a0.size ≤ maxLen) :
    Calls Try.prog 3 #[.string a0] w fun e w' => e = .returned (.bool true) ∧ Below w.heap.size w w' := by
  have hs := w0
  unfold maxLen at hs
  by_cases hl : 1048576 < a0.size
  · go_enter Try.func3, Try.ntmps3
    go_wp2
    go_ret
    exact ⟨rfl, Below.refl _ _⟩
  · have hle : a0.size ≤ 1048576 := by omega
    go_enter Try.func3, Try.ntmps3
    go_wp2_with (first | (go_at_call 15; refine (specSum16 _ _ hle).mono ?_; rintro e w1 ⟨rfl, rfl⟩) | (go_at_call 16; refine (sum16 _ _ hle).mono ?_; rintro e w2 ⟨rfl, rfl⟩))
    go_ret
    exact ⟨rfl, Below.refl _ _⟩
end Go.Proofs.Yteldnfamfjldpab.fnExactSum16
