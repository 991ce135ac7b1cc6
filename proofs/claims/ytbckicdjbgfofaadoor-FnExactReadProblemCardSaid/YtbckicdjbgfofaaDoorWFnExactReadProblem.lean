/- FnExactReadProblem: the law's walk. -/
import Derived.Test.YtbckicdjbgfofaaDoorBelowKit
import Derived.Test.YtbckicdjbgfofaaDoorBoxes
import Derived.Test.YtbckicdjbgfofaaDoorRpIm
import Derived.Test.YtbckicdjbgfofaaDoorRpSp
import Derived.Test.YtbckicdjbgfofaaDoorRecChainProblem
namespace Go.Proofs.YtbckicdjbgfofaaDoor.fnExactReadProblem
open Go.RowKit
set_option linter.unusedVariables false
set_option maxRecDepth 20000 in
set_option maxHeartbeats 8000000 in
theorem walk (a0 : ByteArray) (w : World) (hw : 0 < w.heap.size) (htab : ProbTabs w) (w0 : a0.size ≤ maxLen) :
    Calls Tryd.prog 3 #[.string a0] w fun e w' => e = .returned (.bool true) ∧ Below w.heap.size w w' := by
  by_cases hk0 : a0.size ≤ 1048576
  case neg =>
    have hk' : 1048576 < a0.size := by omega
    go_enter Tryd.func3, Tryd.ntmps3
    go_wp2
    go_ret
    exact ⟨rfl, by go_grown⟩
  case pos =>
    have hn0 : a0.size ≤ 1048576 := by omega
    have hsp := fun  w'  => specReadProblem_any a0 hn0 w' 
    have him := fun  w'  (hbt : Below w.heap.size w w') => readProblem_any a0 hn0 w'  (Nat.lt_of_lt_of_le hw hbt.size) (htab.below hbt hw)
    generalize rpV a0 = r0 at hsp him
    have EQ0 := Lib.hid (fun w' => (eqChainProblem_any r0 r0 w').mono (fun e w'' ⟨he, hw⟩ => (show e = Ending.returned (.bool true) ∧ Below w'.heap.size w' w'' from ⟨by rw [he, sameChainProblem_iff.2 rfl], hw⟩)))
    generalize rpOk a0 = r1 at hsp him
    have hvq1 : (r1 != r1) = false := by simp
    have SP := Lib.hid hsp; have IM := Lib.hid him; clear hsp him htab 
    go_enter Tryd.func3, Tryd.ntmps3
    have FB := Lib.hid (show Below w.heap.size w w from Below.refl _ _)
    have FN : w.heap.size ≤ w.heap.size := Nat.le_refl _
    go_wp2_with fail
    refine (SP.out  _ ).mono ?_
    rintro e w1_ ⟨rfl, hb1⟩
    skip
    replace FB := Lib.hid (below_step FB.out FN hb1)
    have hzw1_ := hb1.size
    replace FN := Nat.le_trans FN hzw1_
    clear hb1
    have RS0 := Lib.hid (BoxAt.new w1_ #[.int .i64 r0.f0, .int .i64 r0.f1, .int .i64 r0.f2] 23 w1_.heap.size rfl)
    replace FB := Lib.hid (below_new FB.out FN (.cells #[.int .i64 r0.f0, .int .i64 r0.f1, .int .i64 r0.f2] 23))
    have hq2 : (w1_.alloc (.cells #[.int .i64 r0.f0, .int .i64 r0.f1, .int .i64 r0.f2] 23)).heap.size = w1_.heap.size + 1 := by simp
    replace FN : w.heap.size ≤ (w1_.alloc (.cells #[.int .i64 r0.f0, .int .i64 r0.f1, .int .i64 r0.f2] 23)).heap.size := by omega
    skip
    go_wp2_with fail
    refine (IM.out  _  FB.out).mono ?_
    rintro e w3_ ⟨rfl, hb3⟩
    skip
    replace RS0 := Lib.hid (RS0.out.below hb3 (by omega))
    replace FB := Lib.hid (below_step FB.out FN hb3)
    have hzw3_ := hb3.size
    replace FN := Nat.le_trans FN hzw3_
    clear hb3
    replace RS0 := Lib.hid (RS0.out.alloc (.cells #[.int .i64 r0.f0, .int .i64 r0.f1, .int .i64 r0.f2] 23) (by omega))
    have RG0 := Lib.hid (BoxAt.new w3_ #[.int .i64 r0.f0, .int .i64 r0.f1, .int .i64 r0.f2] 23 w3_.heap.size rfl)
    replace FB := Lib.hid (below_new FB.out FN (.cells #[.int .i64 r0.f0, .int .i64 r0.f1, .int .i64 r0.f2] 23))
    have hq4 : (w3_.alloc (.cells #[.int .i64 r0.f0, .int .i64 r0.f1, .int .i64 r0.f2] 23)).heap.size = w3_.heap.size + 1 := by simp
    replace FN : w.heap.size ≤ (w3_.alloc (.cells #[.int .i64 r0.f0, .int .i64 r0.f1, .int .i64 r0.f2] 23)).heap.size := by omega
    skip
    have xRG00 := RG0.out 0 _ rfl
    have xRG01 := RG0.out 1 _ rfl
    have xRG02 := RG0.out 2 _ rfl
    have xRS00 := RS0.out 0 _ rfl
    have xRS01 := RS0.out 1 _ rfl
    have xRS02 := RS0.out 2 _ rfl
    go_wp2_with fail
    refine (EQ0.out _).mono ?_
    rintro e w5_ ⟨rfl, hb5⟩
    clear xRG00 xRG01 xRG02
    clear xRS00 xRS01 xRS02
    skip
    replace RS0 := Lib.hid (RS0.out.below hb5 (by omega))
    replace RG0 := Lib.hid (RG0.out.below hb5 (by omega))
    replace FB := Lib.hid (below_step FB.out FN hb5)
    have hzw5_ := hb5.size
    replace FN := Nat.le_trans FN hzw5_
    clear hb5
    go_wp2
    go_ret
    exact ⟨rfl, FB.out⟩
end Go.Proofs.YtbckicdjbgfofaaDoor.fnExactReadProblem
