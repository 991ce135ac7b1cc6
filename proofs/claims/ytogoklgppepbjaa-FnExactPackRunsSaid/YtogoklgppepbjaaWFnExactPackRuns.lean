/- FnExactPackRuns: the law's walk. -/
import Derived.Test.YtogoklgppepbjaaSm
import Derived.Test.YtogoklgppepbjaaBoxes
import Derived.Test.YtogoklgppepbjaaPackRn
import Derived.Test.YtogoklgppepbjaaRunSp
namespace Go.Proofs.Ytogoklgppepbjaa.fnExactPackRuns
open Go.RowKit
set_option linter.unusedVariables false
set_option maxRecDepth 20000 in
set_option maxHeartbeats 8000000 in
theorem walk (a0 : ByteArray) (w : World) (w0 : a0.size ≤ maxLen) :
    Calls Try.prog 3 #[.string a0] w fun e w' => e = .returned (.bool true) ∧ Below w.heap.size w w' := by
  by_cases hk0 : a0.size ≤ 1048576
  case neg =>
    have hk' : 1048576 < a0.size := by omega
    go_enter Try.func3, Try.ntmps3
    go_wp2
    go_ret
    exact ⟨rfl, by go_grown⟩
  case pos =>
    have hn0 : a0.size ≤ 1048576 := by omega
    have hsp := fun  w'  => specPackRuns_any a0 hn0 w' 
    have him := fun  w'  => packRuns_any a0 hn0 w' 
    generalize pkS a0 = r0 at hsp him
    generalize decide (a0.size ≤ 4096) = r1 at hsp him
    have hvq1 : (r1 != r1) = false := by simp
    have SP := Lib.hid hsp; have IM := Lib.hid him; clear hsp him 
    go_enter Try.func3, Try.ntmps3
    have FB := Lib.hid (show Below w.heap.size w w from Below.refl _ _)
    have FN : w.heap.size ≤ w.heap.size := Nat.le_refl _
    go_wp2_with fail
    refine (SP.out  _ ).mono ?_
    rintro e w1_ ⟨rfl, hb1⟩
    have hS := Sm.of_below hb1
    replace FB := Lib.hid (below_step FB.out FN hb1)
    have hzw1_ := hb1.size
    replace FN := Nat.le_trans FN hzw1_
    clear hS hb1
    go_wp2_with fail
    refine (IM.out  _ ).mono ?_
    rintro e w2_ ⟨rfl, hb2⟩
    have hS := Sm.of_below hb2
    replace FB := Lib.hid (below_step FB.out FN hb2)
    have hzw2_ := hb2.size
    replace FN := Nat.le_trans FN hzw2_
    clear hS hb2
    go_wp2
    go_ret
    exact ⟨rfl, FB.out⟩
end Go.Proofs.Ytogoklgppepbjaa.fnExactPackRuns
