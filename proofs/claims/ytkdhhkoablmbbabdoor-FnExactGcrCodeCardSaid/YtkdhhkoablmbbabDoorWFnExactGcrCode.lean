import Derived.Test.YtkdhhkoablmbbabDoorGcrTab
namespace Go.Proofs.YtkdhhkoablmbbabDoor.fnExactGcrCode
open Go.RowKit
set_option linter.unusedVariables false
set_option maxHeartbeats 400000 in
theorem walk (c : Int) (w : World) (hw : 0 < w.heap.size) (h : GrpTab w) (_ : (Lit.int .i64 c).wf = true) :
    Calls Tryd.prog 3 #[.int .i64 c] w fun e w' => e = .returned (.bool true) ∧ Below w.heap.size w w' := by
  go_enter Tryd.func3, Tryd.ntmps3
  go_wp2_with fail
  refine (specGcrCode_any c w).mono ?_
  rintro e w1 ⟨rfl, hb1⟩
  go_wp2_with fail
  refine (gcrCode_any c w1 (Nat.lt_of_lt_of_le hw hb1.size) (h.below hb1 hw)).mono ?_
  rintro e w2 ⟨rfl, hb2⟩
  have hb := hb1.trans (hb2.mono hb1.size)
  go_wp2
  go_ret
  exact ⟨rfl, hb⟩
end Go.Proofs.YtkdhhkoablmbbabDoor.fnExactGcrCode
