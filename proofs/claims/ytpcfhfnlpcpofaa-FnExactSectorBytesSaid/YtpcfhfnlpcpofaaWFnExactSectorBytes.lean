/- FnExactSectorBytes: the law's walk. -/
import Derived.Test.YtpcfhfnlpcpofaaSm
import Derived.Test.YtpcfhfnlpcpofaaBoxes
import Derived.Test.YtpcfhfnlpcpofaaSectorAt
namespace Go.Proofs.Ytpcfhfnlpcpofaa.fnExactSectorBytes
open Go.RowKit
set_option linter.unusedVariables false
set_option maxHeartbeats 8000000 in
theorem walk (a0 : Int) (w : World) (w0 : (Lit.int .i64 a0).wf = true) :
    Calls Try.prog 6 #[.int .i64 a0] w fun e w' => e = .returned (.bool true) ∧ Below w.heap.size w w' := by
  have hsp := fun  w'  => specSectorBytes_any a0  w' 
  have him := fun  w'  => sectorBytes_any a0  w' 
  generalize secBytesV a0 = r0 at hsp him
  have hvq0 : (r0 != r0) = false := by simp
  have SP := Lib.hid hsp; have IM := Lib.hid him; clear hsp him 
  go_enter Try.func6, Try.ntmps6
  have FB := Lib.hid (show Below w.heap.size w w from Below.refl _ _)
  have FN : w.heap.size ≤ w.heap.size := Nat.le_refl _
  go_wp2_with fail
  refine (SP.out  _ ).mono ?_
  rintro e w1_ ⟨rfl, hb1⟩
  have hS := Sm.of_below hb1
  replace FB := Lib.hid (below_step FB.out FN hb1)
  have hzw1_ := hb1.size
  replace FN := Nat.le_trans FN hzw1_
  clear hS hb1
  go_wp2_with fail
  refine (IM.out  _ ).mono ?_
  rintro e w2_ ⟨rfl, hb2⟩
  have hS := Sm.of_below hb2
  replace FB := Lib.hid (below_step FB.out FN hb2)
  have hzw2_ := hb2.size
  replace FN := Nat.le_trans FN hzw2_
  clear hS hb2
  go_wp2
  go_ret
  exact ⟨rfl, FB.out⟩
end Go.Proofs.Ytpcfhfnlpcpofaa.fnExactSectorBytes
