/- FnExactDataField: the law's walk. -/
import Derived.Test.YtffefhgemmjkoaaDoorFields
namespace Go.Proofs.YtffefhgemmjkoaaDoor.fnExactDataField
open Go.RowKit
set_option maxRecDepth 20000
set_option linter.unusedVariables false
set_option maxHeartbeats 4000000 in
theorem walk (f : Int) (c h n z : Int) (d : ByteArray) (de bi bd : Bool) (w : World) (hlt0 : 2 < w.heap.size) (tab0 : ClkTab w) (hlt1 : 1 < w.heap.size) (tab1 : GpbTab w) (hlt2 : 3 < w.heap.size) (tab2 : LayTab w) (w0 : (Lit.int .i64 f).wf = true) (w1 : d.size ≤ maxLen) :
    Calls Tryd.prog 5 #[.int .i64 f, .agg #[.int .i64 c, .int .i64 h, .int .i64 n, .int .i64 z, .string d, .bool de, .bool bi, .bool bd]] w fun e w' => e = .returned (.bool true) ∧ Below w.heap.size w w' := by
  have TO := Lib.hid (fun w => toSector_any c h n z d de bi bd w)
  have SZ := Lib.hid (fun w => szSector_any c h n z d de bi bd 1048576 w w1 (by omega) (by omega))
  have BX := Lib.hid (BoxAt.new w #[.int .i64 c, .int .i64 h, .int .i64 n, .int .i64 z, .string d, .bool de, .bool bi, .bool bd] 26 w.heap.size rfl)
  have TB := Lib.hid (SecTabs.of hlt0 tab0 hlt1 tab1 hlt2 tab2)
  by_cases hk : szS d 1048576 < 0
  · have hk2 : szS d 1048576 = -1 := by unfold szS at hk ⊢; split at hk <;> first | rfl | omega
    unfold secV at SZ
    rw [hk2] at SZ
    clear hk hk2
    go_enter Tryd.func5, Tryd.ntmps5
    go_wp2_with fail
    refine (SZ.out _).mono ?_
    rintro e w1_ ⟨rfl, hb1⟩
    have FB := Lib.hid (show Below w.heap.size w w1_ from Below.trans (by go_grown) (hb1.mono (by simp)))
    clear hb1
    go_wp2
    go_ret
    exact ⟨rfl, FB.out⟩
  · have hd : d.size ≤ 1048576 := by unfold szS at hk; split at hk <;> omega
    have SP := Lib.hid (fun w' => specDataField_any f c h n z d de bi bd w' w1)
    have IM := Lib.hid (fun w' ht => dataField_any f c h n z d de bi bd w' w1 ht)
    unfold secV at SZ TO SP IM
    generalize datV f c h n z d de bd = r at SP IM
    generalize fldOk f c h n z d = o at SP IM
    have hr : (o != o) = false := by simp
    generalize szS d 1048576 = q at *
    go_enter Tryd.func5, Tryd.ntmps5
    go_wp2_with fail
    refine (SZ.out _).mono ?_
    rintro e w1_ ⟨rfl, hb1⟩
    have FB := Lib.hid (show Below w.heap.size w w1_ from Below.trans (by go_grown) (hb1.mono (by simp)))
    replace BX := Lib.hid (BX.out.below hb1 (by simp))
    clear hb1
    have x0 := BX.out 0 _ rfl; have x1 := BX.out 1 _ rfl; have x2 := BX.out 2 _ rfl; have x3 := BX.out 3 _ rfl; have x4 := BX.out 4 _ rfl; have x5 := BX.out 5 _ rfl; have x6 := BX.out 6 _ rfl; have x7 := BX.out 7 _ rfl
    go_wp2_with fail
    refine (TO.out _).mono ?_
    rintro e w2_ ⟨rfl, hb2⟩
    clear x0 x1 x2 x3 x4 x5 x6 x7
    replace FB := Lib.hid (FB.out.trans (hb2.mono FB.out.size))
    replace BX := Lib.hid (BX.out.below hb2 (BX.out.lt (Nat.zero_lt_succ 7)))
    clear hb2
    have x0 := BX.out 0 _ rfl; have x1 := BX.out 1 _ rfl; have x2 := BX.out 2 _ rfl; have x3 := BX.out 3 _ rfl; have x4 := BX.out 4 _ rfl; have x5 := BX.out 5 _ rfl; have x6 := BX.out 6 _ rfl; have x7 := BX.out 7 _ rfl
    go_wp2_with fail
    refine (SP.out _).mono ?_
    rintro e w3_ ⟨rfl, hb3⟩
    clear x0 x1 x2 x3 x4 x5 x6 x7
    replace FB := Lib.hid (FB.out.trans (hb3.mono FB.out.size))
    replace BX := Lib.hid (BX.out.below hb3 (BX.out.lt (Nat.zero_lt_succ 7)))
    clear hb3
    have x0 := BX.out 0 _ rfl; have x1 := BX.out 1 _ rfl; have x2 := BX.out 2 _ rfl; have x3 := BX.out 3 _ rfl; have x4 := BX.out 4 _ rfl; have x5 := BX.out 5 _ rfl; have x6 := BX.out 6 _ rfl; have x7 := BX.out 7 _ rfl
    go_wp2_with fail
    refine (TO.out _).mono ?_
    rintro e w4_ ⟨rfl, hb4⟩
    clear x0 x1 x2 x3 x4 x5 x6 x7
    replace FB := Lib.hid (FB.out.trans (hb4.mono FB.out.size))
    replace BX := Lib.hid (BX.out.below hb4 (BX.out.lt (Nat.zero_lt_succ 7)))
    clear hb4
    have x0 := BX.out 0 _ rfl; have x1 := BX.out 1 _ rfl; have x2 := BX.out 2 _ rfl; have x3 := BX.out 3 _ rfl; have x4 := BX.out 4 _ rfl; have x5 := BX.out 5 _ rfl; have x6 := BX.out 6 _ rfl; have x7 := BX.out 7 _ rfl
    go_wp2_with fail
    refine (IM.out _ (TB.out.below FB.out)).mono ?_
    rintro e w5_ ⟨rfl, hb5⟩
    clear x0 x1 x2 x3 x4 x5 x6 x7
    replace FB := Lib.hid (FB.out.trans (hb5.mono FB.out.size))
    replace BX := Lib.hid (BX.out.below hb5 (BX.out.lt (Nat.zero_lt_succ 7)))
    clear hb5
    have x0 := BX.out 0 _ rfl; have x1 := BX.out 1 _ rfl; have x2 := BX.out 2 _ rfl; have x3 := BX.out 3 _ rfl; have x4 := BX.out 4 _ rfl; have x5 := BX.out 5 _ rfl; have x6 := BX.out 6 _ rfl; have x7 := BX.out 7 _ rfl
    go_wp2
    go_ret
    exact ⟨rfl, FB.out⟩
end Go.Proofs.YtffefhgemmjkoaaDoor.fnExactDataField
