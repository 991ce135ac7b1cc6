/- FnExactEncodeBytes: the law's walk. -/
import Derived.Test.YtjifiibaodjflabDoorEncodeBytes
namespace Go.Proofs.YtjifiibaodjflabDoor.fnExactEncodeBytes
open Go.RowKit
set_option maxRecDepth 20000
set_option linter.unusedVariables false
set_option maxHeartbeats 2000000 in
theorem walk (a0 : Int) (a1 : ByteArray) (a2 : Bool) (w : World) (hlt0 : 1 < w.heap.size) (tab0 : GrpTab w) (hlt1 : 0 < w.heap.size) (tab1 : LayTab w) (w0 : (Lit.int .i64 a0).wf = true) (w1 : a1.size ≤ maxLen) :
    Calls Tryd.prog 4 #[.int .i64 a0, .string a1, .bool a2] w fun e w' => e = .returned (.bool true) ∧ Below w.heap.size w w' := by
  unfold maxLen at w1
  by_cases hk0 : a1.size ≤ 1048576
  case neg =>
    have hk' : 1048576 < a1.size := by omega
    go_enter Tryd.func4, Tryd.ntmps4
    go_wp2
    go_ret
    exact ⟨rfl, by go_grown⟩
  case pos =>
    have IM := Lib.hid (fun w' (hb : Below w.heap.size w w') => encodeBytes_any a0 a1 a2 hk0 w' (Nat.lt_of_lt_of_le hlt0 hb.size) (tab0.below hb hlt0) (Nat.lt_of_lt_of_le hlt1 hb.size) (tab1.below hb hlt1))
    have SP := Lib.hid (fun w' => specEncodeBytes_any a0 a1 a2 hk0 w')
    generalize ebV a0 a1 a2 = r at IM SP
    generalize ebOk a0 a1 = o at IM SP
    have hr : (o != o) = false := by simp
    go_enter Tryd.func4, Tryd.ntmps4
    go_wp2_with (first | (go_at_call 13; refine (SP.out _).mono ?_; rintro e w1 ⟨rfl, hb1⟩) | (go_at_call 14; refine (IM.out _ hb1).mono ?_; rintro e w2 ⟨rfl, hb2⟩))
    go_ret
    exact ⟨rfl, hb1.trans (hb2.mono hb1.size)⟩
end Go.Proofs.YtjifiibaodjflabDoor.fnExactEncodeBytes
