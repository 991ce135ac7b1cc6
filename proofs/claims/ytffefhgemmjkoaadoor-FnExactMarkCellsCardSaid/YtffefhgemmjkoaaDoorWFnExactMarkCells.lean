/- FnExactMarkCells: the law's walk. -/
import Derived.Test.YtffefhgemmjkoaaDoorMarkCells
namespace Go.Proofs.YtffefhgemmjkoaaDoor.fnExactMarkCells
open Go.RowKit
set_option maxRecDepth 20000
set_option linter.unusedVariables false
set_option maxHeartbeats 1000000 in
theorem walk (a0 a1 : Int) (w : World) (hlt0 : 0 < w.heap.size) (tab0 : GrpTab w) (hlt1 : 2 < w.heap.size) (tab1 : ClkTab w) (hlt2 : 1 < w.heap.size) (tab2 : GpbTab w) (w0 : (Lit.int .i64 a0).wf = true) (w1 : (Lit.int .i64 a1).wf = true) :
    Calls Tryd.prog 3 #[.int .i64 a0, .int .i64 a1] w fun e w' => e = .returned (.bool true) ∧ Below w.heap.size w w' := by
  have IM := Lib.hid (fun w' h h1 h2 => markCells_any a0 a1 w' h h1 h2)
  have SP := Lib.hid (fun w' => specMarkCells_any a0 a1 w')
  have TB := Lib.hid (MkTabs.of hlt1 tab1 hlt2 tab2)
  generalize mkV a0 a1 = r at IM SP
  generalize markOk a0 a1 = o at IM SP
  have hr : (o != o) = false := by simp
  go_enter Tryd.func3, Tryd.ntmps3
  go_wp2_with (first | (go_at_call 10; refine (SP.out _).mono ?_; rintro e w1 ⟨rfl, hb1⟩) | (go_at_call 11; refine (IM.out _ (TB.out.below hb1) (Nat.lt_of_lt_of_le hlt0 hb1.size) (tab0.below hb1 hlt0)).mono ?_; rintro e w2 ⟨rfl, hb2⟩))
  go_ret
  exact ⟨rfl, hb1.trans (hb2.mono hb1.size)⟩
end Go.Proofs.YtffefhgemmjkoaaDoor.fnExactMarkCells
