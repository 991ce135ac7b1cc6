/- FnExactValidClock: the law's walk. -/
import Derived.Test.YtgmnaikgjfbgkabClockOk
import Derived.Test.YtgmnaikgjfbgkabLawClock
import Derived.Test.YtgmnaikgjfbgkabOpenClock
namespace Go.Proofs.Ytgmnaikgjfbgkab.fnExactValidClock
open Go.RowKit
set_option linter.unusedVariables false
set_option maxHeartbeats 2000000 in
theorem walk (c l h p s : Int) (w : World) :
    Calls Try.prog 3 #[.agg #[.int .i64 c, .int .i64 l, .int .i64 h, .int .i64 p, .int .i64 s]] w fun e w' => e = .returned (.bool true) ∧ Below w.heap.size w w' := by
  have TO := Lib.hid (fun w => toClock_any c l h p s w)
  have hsp := fun w => specValidClock_any c l h p s w
  have him := fun w => validClock_any c l h p s w
  generalize clockOk c l h p s = q at hsp him
  have hqq : (q != q) = false := by simp
  have SP := Lib.hid hsp; have IM := Lib.hid him; clear hsp him
  have BX := Lib.hid (BoxAt.new w #[.int .i64 c, .int .i64 l, .int .i64 h, .int .i64 p, .int .i64 s] 23 w.heap.size rfl)
  go_enter Try.func3, Try.ntmps3
  go_wp2_with fail
  refine (TO.out _).mono ?_
  rintro e w1 ⟨rfl, hb1⟩
  have hz1 := hb1.size
  have FB1 := Lib.hid (show Below w.heap.size w w1 from Below.trans (by go_grown) (hb1.mono (by simp)))
  replace BX := Lib.hid (BX.out.below hb1 (by simp))
  clear hb1
  go_wp2_with fail
  refine (SP.out _).mono ?_
  rintro e w2 ⟨rfl, hb2⟩
  have hz2 := hb2.size
  have FB2 := Lib.hid (FB1.out.trans (hb2.mono FB1.out.size))
  replace BX := Lib.hid (BX.out.below hb2 (by simp at hz1; omega))
  have x0 := BX.out 0 _ rfl; have x1 := BX.out 1 _ rfl; have x2 := BX.out 2 _ rfl; have x3 := BX.out 3 _ rfl; have x4 := BX.out 4 _ rfl
  clear hb2
  go_wp2_with fail
  refine (TO.out _).mono ?_
  rintro e w3 ⟨rfl, hb3⟩
  have FB3 := Lib.hid (FB2.out.trans (hb3.mono FB2.out.size))
  clear hb3 x0 x1 x2 x3 x4
  go_wp2_with fail
  refine (IM.out _).mono ?_
  rintro e w4 ⟨rfl, hb4⟩
  have FB4 := Lib.hid (FB3.out.trans (hb4.mono FB3.out.size))
  clear hb4
  go_wp2
  go_ret
  exact ⟨rfl, FB4.out⟩
end Go.Proofs.Ytgmnaikgjfbgkab.fnExactValidClock
