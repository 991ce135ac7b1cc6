/- FnExactEncodeFm: the law's walk. -/
import Derived.Test.YtkdhhkoablmbbaaSm
import Derived.Test.YtkdhhkoablmbbaaBoxes
import Derived.Test.YtkdhhkoablmbbaaEncodeFm
namespace Go.Proofs.Ytkdhhkoablmbbaa.fnExactEncodeFm
open Go.RowKit
set_option linter.unusedVariables false
set_option maxHeartbeats 8000000 in
theorem walk (a0 : ByteArray) (w : World) (w0 : a0.size ≤ maxLen) :
    Calls Try.prog 9 #[.string a0] w fun e w' => e = .returned (.bool true) ∧ Below w.heap.size w w' := by
  by_cases hk0 : a0.size ≤ 1048576
  case neg =>
    have hk' : 1048576 < a0.size := by omega
    go_enter Try.func9, Try.ntmps9
    go_wp2
    go_ret
    exact ⟨rfl, by go_grown⟩
  case pos =>
    have hn0 : a0.size ≤ 1048576 := by omega
    have hsp := fun  w'  => specEncodeFm_any a0 hn0 w' 
    have him := fun  w'  => encodeFm_any a0 hn0 w' 
    generalize encV a0 false false = r0 at hsp him
    have SP := Lib.hid hsp; have IM := Lib.hid him; clear hsp him 
    go_enter Try.func9, Try.ntmps9
    have FB := Lib.hid (show Below w.heap.size w w from Below.refl _ _)
    have FN : w.heap.size ≤ w.heap.size := Nat.le_refl _
    go_wp2_with fail
    refine (SP.out  _ ).mono ?_
    rintro e w1_ ⟨rfl, hb1⟩
    have hS := Sm.of_below hb1
    replace FB := Lib.hid (below_step FB.out FN hb1)
    have hzw1_ := hb1.size
    replace FN := Nat.le_trans FN hzw1_
    clear hS hb1
    go_wp2_with fail
    refine (IM.out  _ ).mono ?_
    rintro e w2_ ⟨rfl, hb2⟩
    have hS := Sm.of_below hb2
    replace FB := Lib.hid (below_step FB.out FN hb2)
    have hzw2_ := hb2.size
    replace FN := Nat.le_trans FN hzw2_
    clear hS hb2
    go_wp2
    go_ret
    exact ⟨rfl, FB.out⟩
end Go.Proofs.Ytkdhhkoablmbbaa.fnExactEncodeFm
