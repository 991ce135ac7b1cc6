/- FnExactUpdateParity: the law's walk. -/
import Derived.Test.YtpgcmgbflcdjiaaBelowKit
import Derived.Test.YtpgcmgbflcdjiaaBoxes
import Derived.Test.YtpgcmgbflcdjiaaGfUw
namespace Go.Proofs.Ytpgcmgbflcdjiaa.fnExactUpdateParity
open Go.RowKit
set_option linter.unusedVariables false
set_option maxRecDepth 20000 in
set_option maxHeartbeats 8000000 in
theorem walk (a0 : ByteArray) (a1 : ByteArray) (a2 : Int) (a3 : ByteArray) (a4 : ByteArray) (w : World) (w0 : a0.size ≤ maxLen) (w1 : a1.size ≤ maxLen) (w2 : (Lit.int .i64 a2).wf = true) (w3 : a3.size ≤ maxLen) (w4 : a4.size ≤ maxLen) :
    Calls Try.prog 7 #[.string a0, .string a1, .int .i64 a2, .string a3, .string a4] w fun e w' => e = .returned (.bool true) ∧ Below w.heap.size w w' := by
  by_cases hk0 : a0.size ≤ 1048576
  case neg =>
    have hk' : 1048576 < a0.size := by omega
    go_enter Try.func7, Try.ntmps7
    go_wp2
    go_ret
    exact ⟨rfl, by go_grown⟩
  case pos =>
    by_cases hk1 : a1.size ≤ 1048576
    case neg =>
      have hk' : 1048576 < a1.size := by omega
      go_enter Try.func7, Try.ntmps7
      go_wp2
      go_ret
      exact ⟨rfl, by go_grown⟩
    case pos =>
      by_cases hk3 : a3.size ≤ 1048576
      case neg =>
        have hk' : 1048576 < a3.size := by omega
        go_enter Try.func7, Try.ntmps7
        go_wp2
        go_ret
        exact ⟨rfl, by go_grown⟩
      case pos =>
        by_cases hk4 : a4.size ≤ 1048576
        case neg =>
          have hk' : 1048576 < a4.size := by omega
          go_enter Try.func7, Try.ntmps7
          go_wp2
          go_ret
          exact ⟨rfl, by go_grown⟩
        case pos =>
          have hn0 : a0.size ≤ 1048576 := by omega
          have hn1 : a1.size ≤ 1048576 := by omega
          have hn3 : a3.size ≤ 1048576 := by omega
          have hn4 : a4.size ≤ 1048576 := by omega
          have hsp := fun  w'  => specUpdateParity_g a0 a1 a2 a3 a4 hn0 hn1 hn3 hn4 w' 
          have him := fun  w'  => updateParity_g a0 a1 a2 a3 a4 hn0 hn1 hn3 hn4 w' 
          generalize (upP a0 a1 a2 a3 a4) = r0 at hsp him
          generalize (upQ a0 a1 a2 a3 a4) = r1 at hsp him
          generalize (upC a0 a1 a2 a3 a4) = r2 at hsp him
          have hvq2 : (r2 != r2) = false := by simp
          have SP := Lib.hid hsp; have IM := Lib.hid him; clear hsp him 
          go_enter Try.func7, Try.ntmps7
          have FB := Lib.hid (show Below w.heap.size w w from Below.refl _ _)
          have FN : w.heap.size ≤ w.heap.size := Nat.le_refl _
          go_wp2_with fail
          refine (SP.out  _ ).mono ?_
          rintro e w1_ ⟨rfl, hb1⟩
          skip
          replace FB := Lib.hid (below_step FB.out FN hb1)
          have hzw1_ := hb1.size
          replace FN := Nat.le_trans FN hzw1_
          clear hb1
          go_wp2_with fail
          refine (IM.out  _ ).mono ?_
          rintro e w2_ ⟨rfl, hb2⟩
          skip
          replace FB := Lib.hid (below_step FB.out FN hb2)
          have hzw2_ := hb2.size
          replace FN := Nat.le_trans FN hzw2_
          clear hb2
          go_wp2
          go_ret
          exact ⟨rfl, FB.out⟩
end Go.Proofs.Ytpgcmgbflcdjiaa.fnExactUpdateParity
