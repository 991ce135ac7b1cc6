/- FnExactPlainClock: the law's walk. -/
import Derived.Test.YtgmnaikgjfbgkabPlainClock
import Derived.Test.YtgmnaikgjfbgkabLawClock
import Derived.Test.YtgmnaikgjfbgkabBoxes
namespace Go.Proofs.Ytgmnaikgjfbgkab.fnExactPlainClock
open Go.RowKit
set_option linter.unusedVariables false
set_option maxHeartbeats 2000000 in
theorem walk (n : Int) (w : World) (_ : (Lit.int .i64 n).wf = true) :
    Calls Try.prog 4 #[.int .i64 n] w fun e w' => e = .returned (.bool true) ∧ Below w.heap.size w w' := by
  have hsp := fun w => specPlainClock_any n w
  have him := fun w => plainClock_any n w
  generalize plainCell n = c at hsp him
  generalize plainCode n = k at hsp him
  have hkk : (k != k) = false := by simp
  have EQ := Lib.hid (fun w => eqClock_refl c c c 0 0 w)
  have SP := Lib.hid hsp; have IM := Lib.hid him; clear hsp him
  go_enter Try.func4, Try.ntmps4
  go_wp2_with fail
  refine (SP.out _).mono ?_
  rintro e w1 ⟨rfl, hb1⟩
  have FB1 := Lib.hid hb1
  have BX := Lib.hid (BoxAt.new w1 #[.int .i64 c, .int .i64 c, .int .i64 c, .int .i64 0, .int .i64 0] 25 w1.heap.size rfl)
  clear hb1
  go_wp2_with fail
  refine (IM.out _).mono ?_
  rintro e w2 ⟨rfl, hb2⟩
  have hz2 := hb2.size
  have FB2 := Lib.hid (show Below w.heap.size w w2 from FB1.out.trans ((Below.trans (by go_grown) (hb2.mono (by simp))).mono FB1.out.size))
  replace BX := Lib.hid ((BX.out.below hb2 (by simp)).alloc (.cells #[.int .i64 c, .int .i64 c, .int .i64 c, .int .i64 0, .int .i64 0] 25) (by simp at hz2; omega))
  have x0 := BX.out 0 _ rfl; have x1 := BX.out 1 _ rfl; have x2 := BX.out 2 _ rfl; have x3 := BX.out 3 _ rfl; have x4 := BX.out 4 _ rfl
  clear hb2
  go_wp2_with fail
  refine (EQ.out _).mono ?_
  rintro e w3 ⟨rfl, hb3⟩
  have FB3 := Lib.hid (show Below w.heap.size w w3 from FB2.out.trans ((Below.trans (by go_grown) (hb3.mono (by simp))).mono FB2.out.size))
  clear hb3 x0 x1 x2 x3 x4
  go_wp2
  go_ret
  exact ⟨rfl, FB3.out⟩
end Go.Proofs.Ytgmnaikgjfbgkab.fnExactPlainClock
