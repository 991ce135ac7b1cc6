/- FnExactProblemText: the law's walk. -/
import Derived.Test.YtccjjlfjbandfaaDoorBelowKit
import Derived.Test.YtccjjlfjbandfaaDoorBoxes
import Derived.Test.YtccjjlfjbandfaaDoorProbSp
import Derived.Test.YtccjjlfjbandfaaDoorRecChainProblem
namespace Go.Proofs.YtccjjlfjbandfaaDoor.fnExactProblemText
open Go.RowKit
set_option linter.unusedVariables false
set_option maxRecDepth 20000 in
set_option maxHeartbeats 8000000 in
theorem walk (e0 : ChainProblemV) (w : World) (hw : 0 < w.heap.size) (htab : ProbTabs w)  :
    Calls Tryd.prog 3 #[.agg #[.int .i64 e0.f0, .int .i64 e0.f1, .int .i64 e0.f2]] w fun e w' => e = .returned (.bool true) ∧ Below w.heap.size w w' := by
  have TO0 := Lib.hid (fun w' => toChainProblem_any e0 w')
  have hsp := fun  w'  => specProblemText_any e0  w' 
  have him := fun  w'  (hbt : Below w.heap.size w w') => problemText_any e0  w'  (Nat.lt_of_lt_of_le hw hbt.size) (htab.below hbt hw)
  generalize probV e0 = r0 at hsp him
  have SP := Lib.hid hsp; have IM := Lib.hid him; clear hsp him htab 
  go_enter Tryd.func3, Tryd.ntmps3
  have FB := Lib.hid (show Below w.heap.size w w from Below.refl _ _)
  have FN : w.heap.size ≤ w.heap.size := Nat.le_refl _
  have BX0 := Lib.hid (BoxAt.new w #[.int .i64 e0.f0, .int .i64 e0.f1, .int .i64 e0.f2] 23 w.heap.size rfl)
  replace FB := Lib.hid (below_new FB.out FN (.cells #[.int .i64 e0.f0, .int .i64 e0.f1, .int .i64 e0.f2] 23))
  have hq1 : (w.alloc (.cells #[.int .i64 e0.f0, .int .i64 e0.f1, .int .i64 e0.f2] 23)).heap.size = w.heap.size + 1 := by simp
  replace FN : w.heap.size ≤ (w.alloc (.cells #[.int .i64 e0.f0, .int .i64 e0.f1, .int .i64 e0.f2] 23)).heap.size := by omega
  skip
  have xBX00 := BX0.out 0 _ rfl
  have xBX01 := BX0.out 1 _ rfl
  have xBX02 := BX0.out 2 _ rfl
  go_wp2_with fail
  refine (TO0.out _).mono ?_
  rintro e w2_ ⟨rfl, hb2⟩
  clear xBX00 xBX01 xBX02
  skip
  replace BX0 := Lib.hid (BX0.out.below hb2 (by omega))
  replace FB := Lib.hid (below_step FB.out FN hb2)
  have hzw2_ := hb2.size
  replace FN := Nat.le_trans FN hzw2_
  clear hb2
  go_wp2_with fail
  refine (SP.out  _ ).mono ?_
  rintro e w3_ ⟨rfl, hb3⟩
  skip
  replace BX0 := Lib.hid (BX0.out.below hb3 (by omega))
  replace FB := Lib.hid (below_step FB.out FN hb3)
  have hzw3_ := hb3.size
  replace FN := Nat.le_trans FN hzw3_
  clear hb3
  have xBX00 := BX0.out 0 _ rfl
  have xBX01 := BX0.out 1 _ rfl
  have xBX02 := BX0.out 2 _ rfl
  go_wp2_with fail
  refine (TO0.out _).mono ?_
  rintro e w4_ ⟨rfl, hb4⟩
  clear xBX00 xBX01 xBX02
  skip
  replace BX0 := Lib.hid (BX0.out.below hb4 (by omega))
  replace FB := Lib.hid (below_step FB.out FN hb4)
  have hzw4_ := hb4.size
  replace FN := Nat.le_trans FN hzw4_
  clear hb4
  go_wp2_with fail
  refine (IM.out  _  FB.out).mono ?_
  rintro e w5_ ⟨rfl, hb5⟩
  skip
  replace BX0 := Lib.hid (BX0.out.below hb5 (by omega))
  replace FB := Lib.hid (below_step FB.out FN hb5)
  have hzw5_ := hb5.size
  replace FN := Nat.le_trans FN hzw5_
  clear hb5
  go_wp2
  go_ret
  exact ⟨rfl, FB.out⟩
end Go.Proofs.YtccjjlfjbandfaaDoor.fnExactProblemText
