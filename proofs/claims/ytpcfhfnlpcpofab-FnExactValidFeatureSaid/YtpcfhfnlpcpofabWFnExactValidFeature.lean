/- FnExactValidFeature: the law's walk. -/
import Derived.Test.YtpcfhfnlpcpofabSm
import Derived.Test.YtpcfhfnlpcpofabRecSm
import Derived.Test.YtpcfhfnlpcpofabBoxes
import Derived.Test.YtpcfhfnlpcpofabSpecFeat
import Derived.Test.YtpcfhfnlpcpofabOpenFeature
import Derived.Test.YtpcfhfnlpcpofabRecFeature
namespace Go.Proofs.Ytpcfhfnlpcpofab.fnExactValidFeature
open Go.RowKit
set_option linter.unusedVariables false
set_option maxRecDepth 20000 in
set_option maxHeartbeats 8000000 in
theorem walk (e0 : FeatureV) (w : World)  :
    Calls Try.prog 3 #[.agg #[.int .i64 e0.f0, .int .i64 e0.f1, .int .i64 e0.f2]] w fun e w' => e = .returned (.bool true) ∧ Below w.heap.size w w' := by
  have TO0 := Lib.hid (fun w' => toFeature_any e0 w')
  have hsp := fun  w'  => specValidFeature_g e0  w' 
  have him := fun  w'  => validFeature_g e0  w' 
  generalize featB e0.f0 e0.f1 e0.f2 = r0 at hsp him
  have hvq0 : (r0 != r0) = false := by simp
  have SP := Lib.hid hsp; have IM := Lib.hid him; clear hsp him 
  go_enter Try.func3, Try.ntmps3
  have FB := Lib.hid (show Below w.heap.size w w from Below.refl _ _)
  have FN : w.heap.size ≤ w.heap.size := Nat.le_refl _
  have hS := Sm.alloc w (.cells #[.int .i64 e0.f0, .int .i64 e0.f1, .int .i64 e0.f2] 23)
  have BX0 := Lib.hid (BoxAt.new w #[.int .i64 e0.f0, .int .i64 e0.f1, .int .i64 e0.f2] 23 w.heap.size rfl)
  replace FB := Lib.hid (below_new FB.out FN (.cells #[.int .i64 e0.f0, .int .i64 e0.f1, .int .i64 e0.f2] 23))
  have hq1 : (w.alloc (.cells #[.int .i64 e0.f0, .int .i64 e0.f1, .int .i64 e0.f2] 23)).heap.size = w.heap.size + 1 := by simp
  replace FN : w.heap.size ≤ (w.alloc (.cells #[.int .i64 e0.f0, .int .i64 e0.f1, .int .i64 e0.f2] 23)).heap.size := by omega
  clear hS
  have xBX00 := BX0.out 0 _ rfl
  have xBX01 := BX0.out 1 _ rfl
  have xBX02 := BX0.out 2 _ rfl
  go_wp2_with fail
  refine (TO0.out _).mono ?_
  rintro e w2_ ⟨rfl, hb2⟩
  clear xBX00 xBX01 xBX02
  have hS := Sm.of_below hb2
  replace BX0 := Lib.hid (BX0.out.sm hS (by omega))
  replace FB := Lib.hid (below_step FB.out FN hb2)
  have hzw2_ := hb2.size
  replace FN := Nat.le_trans FN hzw2_
  clear hS hb2
  go_wp2_with fail
  refine (SP.out  _ ).mono ?_
  rintro e w3_ ⟨rfl, hb3⟩
  have hS := Sm.of_below hb3
  replace BX0 := Lib.hid (BX0.out.sm hS (by omega))
  replace FB := Lib.hid (below_step FB.out FN hb3)
  have hzw3_ := hb3.size
  replace FN := Nat.le_trans FN hzw3_
  clear hS hb3
  have xBX00 := BX0.out 0 _ rfl
  have xBX01 := BX0.out 1 _ rfl
  have xBX02 := BX0.out 2 _ rfl
  go_wp2_with fail
  refine (TO0.out _).mono ?_
  rintro e w4_ ⟨rfl, hb4⟩
  clear xBX00 xBX01 xBX02
  have hS := Sm.of_below hb4
  replace BX0 := Lib.hid (BX0.out.sm hS (by omega))
  replace FB := Lib.hid (below_step FB.out FN hb4)
  have hzw4_ := hb4.size
  replace FN := Nat.le_trans FN hzw4_
  clear hS hb4
  go_wp2_with fail
  refine (IM.out  _ ).mono ?_
  rintro e w5_ ⟨rfl, hb5⟩
  have hS := Sm.of_below hb5
  replace BX0 := Lib.hid (BX0.out.sm hS (by omega))
  replace FB := Lib.hid (below_step FB.out FN hb5)
  have hzw5_ := hb5.size
  replace FN := Nat.le_trans FN hzw5_
  clear hS hb5
  go_wp2
  go_ret
  exact ⟨rfl, FB.out⟩
end Go.Proofs.Ytpcfhfnlpcpofab.fnExactValidFeature
