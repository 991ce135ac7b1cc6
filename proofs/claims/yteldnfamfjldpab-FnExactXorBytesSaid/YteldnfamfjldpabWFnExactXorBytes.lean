import Derived.Test.YteldnfamfjldpabSpecXorBytes
namespace Go.Proofs.Yteldnfamfjldpab.fnExactXorBytes
open Go.RowKit
set_option maxHeartbeats 400000 in
theorem walk (a0 a1 : ByteArray) (w : World) (w0 : a0.size ≤ maxLen) (w1 : a1.size ≤ maxLen) :
    Calls Try.prog 4 #[.string a0, .string a1] w fun e w' => e = .returned (.bool true) ∧ Below w.heap.size w w' := by
  unfold maxLen at w0 w1
  by_cases hl : 1048576 < a0.size
  · go_enter Try.func4, Try.ntmps4
    go_wp2
    go_ret
    exact ⟨rfl, Below.refl _ _⟩
  · by_cases hl1 : 1048576 < a1.size
    · go_enter Try.func4, Try.ntmps4
      go_wp2
      go_ret
      exact ⟨rfl, Below.refl _ _⟩
    · have h0 : a0.size ≤ 1048576 := by omega
      have h1 : a1.size ≤ 1048576 := by omega
      by_cases hk : a0.size = a1.size
      · have HK := Lib.hid hk; clear hk
        go_enter Try.func4, Try.ntmps4
        go_wp2_with (first | (go_at_call 17; refine (specXorBytes_yes _ _ _ HK.out h0).mono ?_; rintro e w1 ⟨rfl, hb1⟩) | (go_at_call 18; refine (xorBytes_yes _ _ _ HK.out h0).mono ?_; rintro e w2 ⟨rfl, hb2⟩))
        go_ret
        exact ⟨rfl, hb1.trans (hb2.mono hb1.size)⟩
      · have HK := Lib.hid hk; clear hk
        go_enter Try.func4, Try.ntmps4
        go_wp2_with (first | (go_at_call 17; refine (specXorBytes_no _ _ _ HK.out h0 h1).mono ?_; rintro e w1 ⟨rfl, hb1⟩) | (go_at_call 18; refine (xorBytes_no _ _ _ HK.out h0 h1).mono ?_; rintro e w2 ⟨rfl, hb2⟩))
        go_ret
        exact ⟨rfl, hb1.trans (hb2.mono hb1.size)⟩
end Go.Proofs.Yteldnfamfjldpab.fnExactXorBytes
