/- FnExactStartClock: the law's walk. -/
import Derived.Test.YtgmnaikgjfbgkabStartClock
import Derived.Test.YtgmnaikgjfbgkabLawClock
import Derived.Test.YtgmnaikgjfbgkabOpenClock
namespace Go.Proofs.Ytgmnaikgjfbgkab.fnExactStartClock
open Go.RowKit
set_option linter.unusedVariables false
set_option maxHeartbeats 2000000 in
theorem walk (c l h p s : Int) (w : World) :
    Calls Try.prog 5 #[.agg #[.int .i64 c, .int .i64 l, .int .i64 h, .int .i64 p, .int .i64 s]] w fun e w' => e = .returned (.bool true) ∧ Below w.heap.size w w' := by
  have TO := Lib.hid (fun w => toClock_any c l h p s w)
  have hsp := fun w => specStartClock_any c l h p s w
  have him := fun w => startClock_any c l h p s w
  generalize startPer c l h p s = per at hsp him
  generalize startCode c l h p s = k at hsp him
  have hkk : (k != k) = false := by simp
  have EQ := Lib.hid (fun w => eqLocked_refl per 0 w)
  have SP := Lib.hid hsp; have IM := Lib.hid him; clear hsp him
  have BX := Lib.hid (BoxAt.new w #[.int .i64 c, .int .i64 l, .int .i64 h, .int .i64 p, .int .i64 s] 23 w.heap.size rfl)
  go_enter Try.func5, Try.ntmps5
  go_wp2_with fail
  refine (TO.out _).mono ?_
  rintro e w1 ⟨rfl, hb1⟩
  have hz1 := hb1.size
  have FB1 := Lib.hid (show Below w.heap.size w w1 from Below.trans (by go_grown) (hb1.mono (by simp)))
  replace BX := Lib.hid (BX.out.below hb1 (by simp))
  clear hb1
  go_wp2_with fail
  refine (SP.out _).mono ?_
  rintro e w2 ⟨rfl, hb2⟩
  have hz2 := hb2.size
  have FB2 := Lib.hid (FB1.out.trans (hb2.mono FB1.out.size))
  replace BX := Lib.hid (BX.out.below hb2 (by simp at hz1; omega))
  have RX := Lib.hid (BoxAt.new w2 #[.int .i64 per, .int .i64 0] 33 w2.heap.size rfl)
  replace BX := Lib.hid (BX.out.alloc (.cells #[.int .i64 per, .int .i64 0] 33) (by simp at hz1; omega))
  have x0 := BX.out 0 _ rfl; have x1 := BX.out 1 _ rfl; have x2 := BX.out 2 _ rfl; have x3 := BX.out 3 _ rfl; have x4 := BX.out 4 _ rfl
  clear hb2
  go_wp2_with fail
  refine (TO.out _).mono ?_
  rintro e w3 ⟨rfl, hb3⟩
  have hz3 := hb3.size
  have FB3 := Lib.hid (show Below w.heap.size w w3 from FB2.out.trans ((Below.trans (by go_grown) (hb3.mono (by simp))).mono FB2.out.size))
  replace RX := Lib.hid (RX.out.below hb3 (by simp))
  clear hb3 x0 x1 x2 x3 x4
  go_wp2_with fail
  refine (IM.out _).mono ?_
  rintro e w4 ⟨rfl, hb4⟩
  have hz4 := hb4.size
  have FB4 := Lib.hid (FB3.out.trans (hb4.mono FB3.out.size))
  replace RX := Lib.hid ((RX.out.below hb4 (by simp at hz3; omega)).alloc (.cells #[.int .i64 per, .int .i64 0] 33) (by simp at hz3; omega))
  have x0 := RX.out 0 _ rfl; have x1 := RX.out 1 _ rfl
  clear hb4
  go_wp2_with fail
  refine (EQ.out _).mono ?_
  rintro e w5 ⟨rfl, hb5⟩
  have FB5 := Lib.hid (show Below w.heap.size w w5 from FB4.out.trans ((Below.trans (by go_grown) (hb5.mono (by simp))).mono FB4.out.size))
  clear hb5 x0 x1
  go_wp2
  go_ret
  exact ⟨rfl, FB5.out⟩
end Go.Proofs.Ytgmnaikgjfbgkab.fnExactStartClock
