/- FnExactLongFeature: the law's walk. -/
import Derived.Test.YtpcfhfnlpcpofabSm
import Derived.Test.YtpcfhfnlpcpofabRecSm
import Derived.Test.YtpcfhfnlpcpofabBoxes
import Derived.Test.YtpcfhfnlpcpofabLongFeat
import Derived.Test.YtpcfhfnlpcpofabRecFeature
namespace Go.Proofs.Ytpcfhfnlpcpofab.fnExactLongFeature
open Go.RowKit
set_option linter.unusedVariables false
set_option maxHeartbeats 8000000 in
theorem walk (a0 : ByteArray) (a1 : Int) (w : World) (w0 : a0.size ≤ maxLen) (w1 : (Lit.int .i64 a1).wf = true) :
    Calls Try.prog 6 #[.string a0, .int .i64 a1] w fun e w' => e = .returned (.bool true) ∧ Below w.heap.size w w' := by
  by_cases hk0 : a0.size ≤ 1048576
  case neg =>
    have hk' : 1048576 < a0.size := by omega
    go_enter Try.func6, Try.ntmps6
    go_wp2
    go_ret
    exact ⟨rfl, by go_grown⟩
  case pos =>
    have hn0 : a0.size ≤ 1048576 := by omega
    have hsp := fun  w'  => specLongFeature_any a0 a1 hn0 w' 
    have him := fun  w'  => longFeature_any a0 a1 hn0 w' 
    generalize longV a0 a1 = r0 at hsp him
    have EQ0 := Lib.hid (fun w' => (eqFeature_any r0 r0 w').mono (fun e w'' ⟨he, hw⟩ => (show e = Ending.returned (.bool true) ∧ Below w'.heap.size w' w'' from ⟨by rw [he, sameFeature_iff.2 rfl], hw⟩)))
    generalize longB a0 a1 = r1 at hsp him
    have hvq1 : (r1 != r1) = false := by simp
    have SP := Lib.hid hsp; have IM := Lib.hid him; clear hsp him 
    go_enter Try.func6, Try.ntmps6
    have FB := Lib.hid (show Below w.heap.size w w from Below.refl _ _)
    have FN : w.heap.size ≤ w.heap.size := Nat.le_refl _
    go_wp2_with fail
    refine (SP.out  _ ).mono ?_
    rintro e w1_ ⟨rfl, hb1⟩
    have hS := Sm.of_below hb1
    replace FB := Lib.hid (below_step FB.out FN hb1)
    have hzw1_ := hb1.size
    replace FN := Nat.le_trans FN hzw1_
    clear hS hb1
    have hS := Sm.alloc w1_ (.cells #[.int .i64 r0.f0, .int .i64 r0.f1, .int .i64 r0.f2] 25)
    have RS0 := Lib.hid (BoxAt.new w1_ #[.int .i64 r0.f0, .int .i64 r0.f1, .int .i64 r0.f2] 25 w1_.heap.size rfl)
    replace FB := Lib.hid (below_new FB.out FN (.cells #[.int .i64 r0.f0, .int .i64 r0.f1, .int .i64 r0.f2] 25))
    have hq2 : (w1_.alloc (.cells #[.int .i64 r0.f0, .int .i64 r0.f1, .int .i64 r0.f2] 25)).heap.size = w1_.heap.size + 1 := by simp
    replace FN : w.heap.size ≤ (w1_.alloc (.cells #[.int .i64 r0.f0, .int .i64 r0.f1, .int .i64 r0.f2] 25)).heap.size := by omega
    clear hS
    go_wp2_with fail
    refine (IM.out  _ ).mono ?_
    rintro e w3_ ⟨rfl, hb3⟩
    have hS := Sm.of_below hb3
    replace RS0 := Lib.hid (RS0.out.sm hS (by omega))
    replace FB := Lib.hid (below_step FB.out FN hb3)
    have hzw3_ := hb3.size
    replace FN := Nat.le_trans FN hzw3_
    clear hS hb3
    have hS := Sm.alloc w3_ (.cells #[.int .i64 r0.f0, .int .i64 r0.f1, .int .i64 r0.f2] 25)
    replace RS0 := Lib.hid (RS0.out.sm hS (by omega))
    have RG0 := Lib.hid (BoxAt.new w3_ #[.int .i64 r0.f0, .int .i64 r0.f1, .int .i64 r0.f2] 25 w3_.heap.size rfl)
    replace FB := Lib.hid (below_new FB.out FN (.cells #[.int .i64 r0.f0, .int .i64 r0.f1, .int .i64 r0.f2] 25))
    have hq4 : (w3_.alloc (.cells #[.int .i64 r0.f0, .int .i64 r0.f1, .int .i64 r0.f2] 25)).heap.size = w3_.heap.size + 1 := by simp
    replace FN : w.heap.size ≤ (w3_.alloc (.cells #[.int .i64 r0.f0, .int .i64 r0.f1, .int .i64 r0.f2] 25)).heap.size := by omega
    clear hS
    have xRG00 := RG0.out 0 _ rfl
    have xRG01 := RG0.out 1 _ rfl
    have xRG02 := RG0.out 2 _ rfl
    have xRS00 := RS0.out 0 _ rfl
    have xRS01 := RS0.out 1 _ rfl
    have xRS02 := RS0.out 2 _ rfl
    go_wp2_with fail
    refine (EQ0.out _).mono ?_
    rintro e w5_ ⟨rfl, hb5⟩
    clear xRG00 xRG01 xRG02
    clear xRS00 xRS01 xRS02
    have hS := Sm.of_below hb5
    replace RS0 := Lib.hid (RS0.out.sm hS (by omega))
    replace RG0 := Lib.hid (RG0.out.sm hS (by omega))
    replace FB := Lib.hid (below_step FB.out FN hb5)
    have hzw5_ := hb5.size
    replace FN := Nat.le_trans FN hzw5_
    clear hS hb5
    go_wp2
    go_ret
    exact ⟨rfl, FB.out⟩
end Go.Proofs.Ytpcfhfnlpcpofab.fnExactLongFeature
