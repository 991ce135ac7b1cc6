/- FnExactMarkByte: the law's walk. -/
import Derived.Test.YtjifiibaodjflaaDoorMarkTab
namespace Go.Proofs.YtjifiibaodjflaaDoor.fnExactMarkByte
open Go.RowKit
set_option linter.unusedVariables false
set_option maxHeartbeats 1000000 in
theorem walk (a0 a1 : Int) (w : World) (hlt0 : 1 < w.heap.size) (tab0 : ClkTab w) (hlt1 : 0 < w.heap.size) (tab1 : GpbTab w) (w0 : (Lit.int .i64 a0).wf = true) (w1 : (Lit.int .i64 a1).wf = true) :
    Calls Tryd.prog 3 #[.int .i64 a0, .int .i64 a1] w fun e w' => e = .returned (.bool true) ∧ Below w.heap.size w w' := by
  have IM := Lib.hid (fun w' h => markByte_any a0 a1 w' h)
  have SP := Lib.hid (fun w' => specMarkByte_any a0 a1 w')
  have TB := Lib.hid (MkTabs.of hlt0 tab0 hlt1 tab1)
  generalize markB a0 a1 = r at IM SP
  have hr : (r != r) = false := by simp
  go_enter Tryd.func3, Tryd.ntmps3
  go_wp2_with (first | (go_at_call 4; refine (SP.out _).mono ?_; rintro e w1 ⟨rfl, hb1⟩) | (go_at_call 5; refine (IM.out _ (TB.out.below hb1)).mono ?_; rintro e w2 ⟨rfl, hb2⟩))
  go_ret
  exact ⟨rfl, hb1.trans (hb2.mono hb1.size)⟩
end Go.Proofs.YtjifiibaodjflaaDoor.fnExactMarkByte
