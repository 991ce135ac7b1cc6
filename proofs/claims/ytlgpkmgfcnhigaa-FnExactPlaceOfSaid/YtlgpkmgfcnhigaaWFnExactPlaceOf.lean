/- FnExactPlaceOf: the law's walk. -/
import Derived.Test.YtlgpkmgfcnhigaaSm
import Derived.Test.YtlgpkmgfcnhigaaBoxes
import Derived.Test.YtlgpkmgfcnhigaaPlaceOf
namespace Go.Proofs.Ytlgpkmgfcnhigaa.fnExactPlaceOf
open Go.RowKit
set_option linter.unusedVariables false
set_option maxRecDepth 20000 in
set_option maxHeartbeats 8000000 in
theorem walk (a0 : ByteArray) (a1 : ByteArray) (a2 : Int) (w : World) (w0 : a0.size ≤ maxLen) (w1 : a1.size ≤ maxLen) (w2 : (Lit.int .i64 a2).wf = true) (hmx : MaxP w) :
    Calls Try.prog 5 #[.string a0, .string a1, .int .i64 a2] w fun e w' => e = .returned (.bool true) ∧ Below w.heap.size w w' := by
  by_cases hk0 : a0.size ≤ 1048576
  case neg =>
    have hk' : 1048576 < a0.size := by omega
    go_enter Try.func5, Try.ntmps5
    go_wp2
    go_ret
    exact ⟨rfl, by go_grown⟩
  case pos =>
    by_cases hk1 : a1.size ≤ 1048576
    case neg =>
      have hk' : 1048576 < a1.size := by omega
      go_enter Try.func5, Try.ntmps5
      go_wp2
      go_ret
      exact ⟨rfl, by go_grown⟩
    case pos =>
      have hn0 : a0.size ≤ 1048576 := by omega
      have hn1 : a1.size ≤ 1048576 := by omega
      have hsp := fun  w'  => specPlaceOf_g a0 a1 a2 hn0 hn1 w' 
      have him := fun  w'  hm => placeOf_g a0 a1 a2 hn0 hn1 w' hm
      generalize placeV a0 a1 a2 = r0 at hsp him
      have hvq0 : (r0 != r0) = false := by simp
      have SP := Lib.hid hsp; have IM := Lib.hid him; clear hsp him 
      go_enter Try.func5, Try.ntmps5
      have FB := Lib.hid (show Below w.heap.size w w from Below.refl _ _)
      have FN : w.heap.size ≤ w.heap.size := Nat.le_refl _
      go_wp2_with fail
      refine (SP.out  _ ).mono ?_
      rintro e w1_ ⟨rfl, hb1⟩
      have hS := Sm.of_below hb1
      replace FB := Lib.hid (below_step FB.out FN hb1)
      have hzw1_ := hb1.size
      replace FN := Nat.le_trans FN hzw1_
      clear hS hb1
      go_wp2_with fail
      refine (IM.out  _ (hmx.below FB.out)).mono ?_
      rintro e w2_ ⟨rfl, hb2⟩
      have hS := Sm.of_below hb2
      replace FB := Lib.hid (below_step FB.out FN hb2)
      have hzw2_ := hb2.size
      replace FN := Nat.le_trans FN hzw2_
      clear hS hb2
      go_wp2
      go_ret
      exact ⟨rfl, FB.out⟩
end Go.Proofs.Ytlgpkmgfcnhigaa.fnExactPlaceOf
