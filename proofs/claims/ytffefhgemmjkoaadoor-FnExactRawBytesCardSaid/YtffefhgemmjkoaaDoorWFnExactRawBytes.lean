/- FnExactRawBytes: the law's walk. -/
import Derived.Test.YtffefhgemmjkoaaDoorSm
import Derived.Test.YtffefhgemmjkoaaDoorBoxes
import Derived.Test.YtffefhgemmjkoaaDoorSpecRawB
namespace Go.Proofs.YtffefhgemmjkoaaDoor.fnExactRawBytes
open Go.RowKit
set_option maxRecDepth 20000
set_option linter.unusedVariables false
set_option maxHeartbeats 8000000 in
theorem walk (a0 : Int) (a1 : ByteArray) (w : World) (hw : 0 < w.heap.size) (htab : GrpTab w) (w0 : (Lit.int .i64 a0).wf = true) (w1 : a1.size ≤ maxLen) :
    Calls Tryd.prog 9 #[.int .i64 a0, .string a1] w fun e w' => e = .returned (.bool true) ∧ Below w.heap.size w w' := by
  by_cases hk1 : a1.size ≤ 1048576
  case neg =>
    have hk' : 1048576 < a1.size := by omega
    go_enter Tryd.func9, Tryd.ntmps9
    go_wp2
    go_ret
    exact ⟨rfl, by go_grown⟩
  case pos =>
    have hn1 : a1.size ≤ 1048576 := by omega
    have hsp := fun  w'  => specRawBytes_any a0 a1 hn1 w' 
    have him := fun  w'  (hbt : Below w.heap.size w w') => rawBytes_any a0 a1 hn1 w'  (Nat.lt_of_lt_of_le hw hbt.size) (htab.below hbt hw)
    generalize rawT a0 a1 = r0 at hsp him
    generalize rawB a0 a1 = r1 at hsp him
    have hvq1 : (r1 != r1) = false := by simp
    have SP := Lib.hid hsp; have IM := Lib.hid him; clear hsp him htab 
    go_enter Tryd.func9, Tryd.ntmps9
    have FB := Lib.hid (show Below w.heap.size w w from Below.refl _ _)
    have FN : w.heap.size ≤ w.heap.size := Nat.le_refl _
    go_wp2_with fail
    refine (SP.out  _ ).mono ?_
    rintro e w1_ ⟨rfl, hb1⟩
    have hS := Sm.of_below hb1
    replace FB := Lib.hid (below_step FB.out FN hb1)
    have hzw1_ := hb1.size
    replace FN := Nat.le_trans FN hzw1_
    clear hS hb1
    go_wp2_with fail
    refine (IM.out  _  FB.out).mono ?_
    rintro e w2_ ⟨rfl, hb2⟩
    have hS := Sm.of_below hb2
    replace FB := Lib.hid (below_step FB.out FN hb2)
    have hzw2_ := hb2.size
    replace FN := Nat.le_trans FN hzw2_
    clear hS hb2
    go_wp2
    go_ret
    exact ⟨rfl, FB.out⟩
end Go.Proofs.YtffefhgemmjkoaaDoor.fnExactRawBytes
