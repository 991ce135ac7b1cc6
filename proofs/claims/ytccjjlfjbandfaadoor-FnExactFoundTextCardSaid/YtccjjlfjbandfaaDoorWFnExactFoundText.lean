/- FnExactFoundText: the law's walk. -/
import Derived.Test.YtccjjlfjbandfaaDoorBelowKit
import Derived.Test.YtccjjlfjbandfaaDoorBoxes
import Derived.Test.YtccjjlfjbandfaaDoorFoundSp
import Derived.Test.YtccjjlfjbandfaaDoorRecFound
import Derived.Test.YtccjjlfjbandfaaDoorDecTab
namespace Go.Proofs.YtccjjlfjbandfaaDoor.fnExactFoundText
open Go.RowKit
set_option linter.unusedVariables false
set_option maxRecDepth 20000 in
set_option maxHeartbeats 8000000 in
theorem walk (e0 : FoundV) (w : World) (hw : 1 < w.heap.size) (htab : DecTab w) (w0_4 : e0.f4.size ≤ maxLen) :
    Calls Tryd.prog 4 #[.agg #[.int .i64 e0.f0, .int .i64 e0.f1, .int .i64 e0.f2, .int .i64 e0.f3, .string e0.f4, .int .i64 e0.f5, .bool e0.f6, .int .i64 e0.f7]] w fun e w' => e = .returned (.bool true) ∧ Below w.heap.size w w' := by
  by_cases hk0 : e0.f4.size ≤ 1048576
  case neg =>
    have SN0 := Lib.hid (fun w' => (szFound_any e0 1048576 w' (by omega) w0_4).mono (fun e w'' ⟨he, hw⟩ => (show e = Ending.returned (.int .i64 (-1)) ∧ Below w'.heap.size w' w'' from ⟨by rw [he]; unfold szV; rw [if_neg hk0], hw⟩)))
    go_enter Tryd.func4, Tryd.ntmps4
    have FB := Lib.hid (show Below w.heap.size w w from Below.refl _ _)
    have FN : w.heap.size ≤ w.heap.size := Nat.le_refl _
    have BX0 := Lib.hid (BoxAt.new w #[.int .i64 e0.f0, .int .i64 e0.f1, .int .i64 e0.f2, .int .i64 e0.f3, .string e0.f4, .int .i64 e0.f5, .bool e0.f6, .int .i64 e0.f7] 29 w.heap.size rfl)
    replace FB := Lib.hid (below_new FB.out FN (.cells #[.int .i64 e0.f0, .int .i64 e0.f1, .int .i64 e0.f2, .int .i64 e0.f3, .string e0.f4, .int .i64 e0.f5, .bool e0.f6, .int .i64 e0.f7] 29))
    have hq1 : (w.alloc (.cells #[.int .i64 e0.f0, .int .i64 e0.f1, .int .i64 e0.f2, .int .i64 e0.f3, .string e0.f4, .int .i64 e0.f5, .bool e0.f6, .int .i64 e0.f7] 29)).heap.size = w.heap.size + 1 := by simp
    replace FN : w.heap.size ≤ (w.alloc (.cells #[.int .i64 e0.f0, .int .i64 e0.f1, .int .i64 e0.f2, .int .i64 e0.f3, .string e0.f4, .int .i64 e0.f5, .bool e0.f6, .int .i64 e0.f7] 29)).heap.size := by omega
    skip
    have xBX00 := BX0.out 0 _ rfl
    have xBX01 := BX0.out 1 _ rfl
    have xBX02 := BX0.out 2 _ rfl
    have xBX03 := BX0.out 3 _ rfl
    have xBX04 := BX0.out 4 _ rfl
    have xBX05 := BX0.out 5 _ rfl
    have xBX06 := BX0.out 6 _ rfl
    have xBX07 := BX0.out 7 _ rfl
    go_wp2_with fail
    refine (SN0.out _).mono ?_
    rintro e w2_ ⟨rfl, hb2⟩
    clear xBX00 xBX01 xBX02 xBX03 xBX04 xBX05 xBX06 xBX07
    skip
    replace BX0 := Lib.hid (BX0.out.below hb2 (by omega))
    replace FB := Lib.hid (below_step FB.out FN hb2)
    have hzw2_ := hb2.size
    replace FN := Nat.le_trans FN hzw2_
    clear hb2
    go_wp2
    go_ret
    exact ⟨rfl, FB.out⟩
  case pos =>
    have sz0 := fun w' => (szFound_any e0 1048576 w' (by omega) w0_4).mono (fun e w'' ⟨he, hw⟩ => (show e = Ending.returned (.int .i64 ((1048576 - e0.f4.size : Nat) : Int)) ∧ Below w'.heap.size w' w'' from ⟨by rw [he]; unfold szV; rw [if_pos hk0], hw⟩))
    obtain ⟨lf0, hlf0⟩ : ∃ m, 1048576 - e0.f4.size = m := ⟨_, rfl⟩
    rw [hlf0] at sz0
    have hlfb0 : ¬ ((lf0 : Int) < 0) := by omega
    have hlfc0 : lf0 ≤ 1048576 := by omega
    have SZ0 := Lib.hid sz0; clear sz0
    have hn0 : e0.f4.size ≤ 1048576 := by omega
    have TO0 := Lib.hid (fun w' => toFound_any e0 w')
    have hsp := fun  w'  => specFoundText_g e0 hn0 w' 
    have him := fun  w'  (hbt : Below w.heap.size w w') => foundText_g e0 hn0 w'  (Nat.lt_of_lt_of_le hw hbt.size) (htab.below hbt hw)
    generalize foundT e0 = r0 at hsp him
    have SP := Lib.hid hsp; have IM := Lib.hid him; clear hsp him htab 
    go_enter Tryd.func4, Tryd.ntmps4
    have FB := Lib.hid (show Below w.heap.size w w from Below.refl _ _)
    have FN : w.heap.size ≤ w.heap.size := Nat.le_refl _
    have BX0 := Lib.hid (BoxAt.new w #[.int .i64 e0.f0, .int .i64 e0.f1, .int .i64 e0.f2, .int .i64 e0.f3, .string e0.f4, .int .i64 e0.f5, .bool e0.f6, .int .i64 e0.f7] 29 w.heap.size rfl)
    replace FB := Lib.hid (below_new FB.out FN (.cells #[.int .i64 e0.f0, .int .i64 e0.f1, .int .i64 e0.f2, .int .i64 e0.f3, .string e0.f4, .int .i64 e0.f5, .bool e0.f6, .int .i64 e0.f7] 29))
    have hq1 : (w.alloc (.cells #[.int .i64 e0.f0, .int .i64 e0.f1, .int .i64 e0.f2, .int .i64 e0.f3, .string e0.f4, .int .i64 e0.f5, .bool e0.f6, .int .i64 e0.f7] 29)).heap.size = w.heap.size + 1 := by simp
    replace FN : w.heap.size ≤ (w.alloc (.cells #[.int .i64 e0.f0, .int .i64 e0.f1, .int .i64 e0.f2, .int .i64 e0.f3, .string e0.f4, .int .i64 e0.f5, .bool e0.f6, .int .i64 e0.f7] 29)).heap.size := by omega
    skip
    have xBX00 := BX0.out 0 _ rfl
    have xBX01 := BX0.out 1 _ rfl
    have xBX02 := BX0.out 2 _ rfl
    have xBX03 := BX0.out 3 _ rfl
    have xBX04 := BX0.out 4 _ rfl
    have xBX05 := BX0.out 5 _ rfl
    have xBX06 := BX0.out 6 _ rfl
    have xBX07 := BX0.out 7 _ rfl
    go_wp2_with fail
    refine (SZ0.out _).mono ?_
    rintro e w2_ ⟨rfl, hb2⟩
    clear xBX00 xBX01 xBX02 xBX03 xBX04 xBX05 xBX06 xBX07
    skip
    replace BX0 := Lib.hid (BX0.out.below hb2 (by omega))
    replace FB := Lib.hid (below_step FB.out FN hb2)
    have hzw2_ := hb2.size
    replace FN := Nat.le_trans FN hzw2_
    clear hb2
    have xBX00 := BX0.out 0 _ rfl
    have xBX01 := BX0.out 1 _ rfl
    have xBX02 := BX0.out 2 _ rfl
    have xBX03 := BX0.out 3 _ rfl
    have xBX04 := BX0.out 4 _ rfl
    have xBX05 := BX0.out 5 _ rfl
    have xBX06 := BX0.out 6 _ rfl
    have xBX07 := BX0.out 7 _ rfl
    go_wp2_with fail
    refine (TO0.out _).mono ?_
    rintro e w3_ ⟨rfl, hb3⟩
    clear xBX00 xBX01 xBX02 xBX03 xBX04 xBX05 xBX06 xBX07
    skip
    replace BX0 := Lib.hid (BX0.out.below hb3 (by omega))
    replace FB := Lib.hid (below_step FB.out FN hb3)
    have hzw3_ := hb3.size
    replace FN := Nat.le_trans FN hzw3_
    clear hb3
    go_wp2_with fail
    refine (SP.out  _ ).mono ?_
    rintro e w4_ ⟨rfl, hb4⟩
    skip
    replace BX0 := Lib.hid (BX0.out.below hb4 (by omega))
    replace FB := Lib.hid (below_step FB.out FN hb4)
    have hzw4_ := hb4.size
    replace FN := Nat.le_trans FN hzw4_
    clear hb4
    have xBX00 := BX0.out 0 _ rfl
    have xBX01 := BX0.out 1 _ rfl
    have xBX02 := BX0.out 2 _ rfl
    have xBX03 := BX0.out 3 _ rfl
    have xBX04 := BX0.out 4 _ rfl
    have xBX05 := BX0.out 5 _ rfl
    have xBX06 := BX0.out 6 _ rfl
    have xBX07 := BX0.out 7 _ rfl
    go_wp2_with fail
    refine (TO0.out _).mono ?_
    rintro e w5_ ⟨rfl, hb5⟩
    clear xBX00 xBX01 xBX02 xBX03 xBX04 xBX05 xBX06 xBX07
    skip
    replace BX0 := Lib.hid (BX0.out.below hb5 (by omega))
    replace FB := Lib.hid (below_step FB.out FN hb5)
    have hzw5_ := hb5.size
    replace FN := Nat.le_trans FN hzw5_
    clear hb5
    go_wp2_with fail
    refine (IM.out  _  FB.out).mono ?_
    rintro e w6_ ⟨rfl, hb6⟩
    skip
    replace BX0 := Lib.hid (BX0.out.below hb6 (by omega))
    replace FB := Lib.hid (below_step FB.out FN hb6)
    have hzw6_ := hb6.size
    replace FN := Nat.le_trans FN hzw6_
    clear hb6
    go_wp2
    go_ret
    exact ⟨rfl, FB.out⟩
end Go.Proofs.YtccjjlfjbandfaaDoor.fnExactFoundText
