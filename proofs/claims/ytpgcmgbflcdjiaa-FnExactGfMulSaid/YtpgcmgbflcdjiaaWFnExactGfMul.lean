/- FnExactGfMul: the law's walk. -/
import Derived.Test.YtpgcmgbflcdjiaaBelowKit
import Derived.Test.YtpgcmgbflcdjiaaBoxes
import Derived.Test.YtpgcmgbflcdjiaaGfSp
namespace Go.Proofs.Ytpgcmgbflcdjiaa.fnExactGfMul
open Go.RowKit
set_option linter.unusedVariables false
set_option maxRecDepth 20000 in
set_option maxHeartbeats 8000000 in
theorem walk (a0 : Int) (a1 : Int) (w : World) (w0 : (Lit.int .i64 a0).wf = true) (w1 : (Lit.int .i64 a1).wf = true) :
    Calls Try.prog 3 #[.int .i64 a0, .int .i64 a1] w fun e w' => e = .returned (.bool true) ∧ Below w.heap.size w w' := by
  have hsp := fun  w'  => specGfMul_g a0 a1  w' 
  have him := fun  w'  => gfMul_g a0 a1  w' 
  generalize (gmV a0 a1) = r0 at hsp him
  have hvq0 : (r0 != r0) = false := by simp
  have SP := Lib.hid hsp; have IM := Lib.hid him; clear hsp him 
  go_enter Try.func3, Try.ntmps3
  have FB := Lib.hid (show Below w.heap.size w w from Below.refl _ _)
  have FN : w.heap.size ≤ w.heap.size := Nat.le_refl _
  go_wp2_with fail
  refine (SP.out  _ ).mono ?_
  rintro e w1_ ⟨rfl, hb1⟩
  skip
  replace FB := Lib.hid (below_step FB.out FN hb1)
  have hzw1_ := hb1.size
  replace FN := Nat.le_trans FN hzw1_
  clear hb1
  go_wp2_with fail
  refine (IM.out  _ ).mono ?_
  rintro e w2_ ⟨rfl, hb2⟩
  skip
  replace FB := Lib.hid (below_step FB.out FN hb2)
  have hzw2_ := hb2.size
  replace FN := Nat.le_trans FN hzw2_
  clear hb2
  go_wp2
  go_ret
  exact ⟨rfl, FB.out⟩
end Go.Proofs.Ytpgcmgbflcdjiaa.fnExactGfMul
