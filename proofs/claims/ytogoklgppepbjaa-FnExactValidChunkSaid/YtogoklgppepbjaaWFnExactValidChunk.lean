/- FnExactValidChunk: the law's walk. -/
import Derived.Test.YtogoklgppepbjaaSm
import Derived.Test.YtogoklgppepbjaaRecSm
import Derived.Test.YtogoklgppepbjaaBoxes
import Derived.Test.YtogoklgppepbjaaChunkOk
import Derived.Test.YtogoklgppepbjaaRecChunk
namespace Go.Proofs.Ytogoklgppepbjaa.fnExactValidChunk
open Go.RowKit
set_option linter.unusedVariables false
set_option maxRecDepth 20000 in
set_option maxHeartbeats 8000000 in
theorem walk (e0 : ChunkV) (w : World) (w0_1 : e0.f1.size ≤ maxLen) :
    Calls Try.prog 8 #[.agg #[.int .i64 e0.f0, .string e0.f1]] w fun e w' => e = .returned (.bool true) ∧ Below w.heap.size w w' := by
  by_cases hk0 : e0.f1.size ≤ 1048576
  case neg =>
    have SN0 := Lib.hid (fun w' => (szChunk_any e0 1048576 w' (by omega) w0_1).mono (fun e w'' ⟨he, hw⟩ => (show e = Ending.returned (.int .i64 (-1)) ∧ Below w'.heap.size w' w'' from ⟨by rw [he]; unfold szV; rw [if_neg hk0], hw⟩)))
    go_enter Try.func8, Try.ntmps8
    have FB := Lib.hid (show Below w.heap.size w w from Below.refl _ _)
    have FN : w.heap.size ≤ w.heap.size := Nat.le_refl _
    have hS := Sm.alloc w (.cells #[.int .i64 e0.f0, .string e0.f1] 42)
    have BX0 := Lib.hid (BoxAt.new w #[.int .i64 e0.f0, .string e0.f1] 42 w.heap.size rfl)
    replace FB := Lib.hid (below_new FB.out FN (.cells #[.int .i64 e0.f0, .string e0.f1] 42))
    have hq1 : (w.alloc (.cells #[.int .i64 e0.f0, .string e0.f1] 42)).heap.size = w.heap.size + 1 := by simp
    replace FN : w.heap.size ≤ (w.alloc (.cells #[.int .i64 e0.f0, .string e0.f1] 42)).heap.size := by omega
    clear hS
    have xBX00 := BX0.out 0 _ rfl
    have xBX01 := BX0.out 1 _ rfl
    go_wp2_with fail
    refine (SN0.out _).mono ?_
    rintro e w2_ ⟨rfl, hb2⟩
    clear xBX00 xBX01
    have hS := Sm.of_below hb2
    replace BX0 := Lib.hid (BX0.out.sm hS (by omega))
    replace FB := Lib.hid (below_step FB.out FN hb2)
    have hzw2_ := hb2.size
    replace FN := Nat.le_trans FN hzw2_
    clear hS hb2
    go_wp2
    go_ret
    exact ⟨rfl, FB.out⟩
  case pos =>
    have sz0 := fun w' => (szChunk_any e0 1048576 w' (by omega) w0_1).mono (fun e w'' ⟨he, hw⟩ => (show e = Ending.returned (.int .i64 ((1048576 - e0.f1.size : Nat) : Int)) ∧ Below w'.heap.size w' w'' from ⟨by rw [he]; unfold szV; rw [if_pos hk0], hw⟩))
    obtain ⟨lf0, hlf0⟩ : ∃ m, 1048576 - e0.f1.size = m := ⟨_, rfl⟩
    rw [hlf0] at sz0
    have hlfb0 : ¬ ((lf0 : Int) < 0) := by omega
    have hlfc0 : lf0 ≤ 1048576 := by omega
    have SZ0 := Lib.hid sz0; clear sz0
    have hn0 : e0.f1.size ≤ 1048576 := by omega
    have TO0 := Lib.hid (fun w' => toChunk_any e0 w')
    have hsp := fun  w'  => specValidChunk_any e0 hn0 w' 
    have him := fun  w'  => validChunk_any e0 hn0 w' 
    generalize chunkB e0 = r0 at hsp him
    have hvq0 : (r0 != r0) = false := by simp
    have SP := Lib.hid hsp; have IM := Lib.hid him; clear hsp him 
    go_enter Try.func8, Try.ntmps8
    have FB := Lib.hid (show Below w.heap.size w w from Below.refl _ _)
    have FN : w.heap.size ≤ w.heap.size := Nat.le_refl _
    have hS := Sm.alloc w (.cells #[.int .i64 e0.f0, .string e0.f1] 42)
    have BX0 := Lib.hid (BoxAt.new w #[.int .i64 e0.f0, .string e0.f1] 42 w.heap.size rfl)
    replace FB := Lib.hid (below_new FB.out FN (.cells #[.int .i64 e0.f0, .string e0.f1] 42))
    have hq1 : (w.alloc (.cells #[.int .i64 e0.f0, .string e0.f1] 42)).heap.size = w.heap.size + 1 := by simp
    replace FN : w.heap.size ≤ (w.alloc (.cells #[.int .i64 e0.f0, .string e0.f1] 42)).heap.size := by omega
    clear hS
    have xBX00 := BX0.out 0 _ rfl
    have xBX01 := BX0.out 1 _ rfl
    go_wp2_with fail
    refine (SZ0.out _).mono ?_
    rintro e w2_ ⟨rfl, hb2⟩
    clear xBX00 xBX01
    have hS := Sm.of_below hb2
    replace BX0 := Lib.hid (BX0.out.sm hS (by omega))
    replace FB := Lib.hid (below_step FB.out FN hb2)
    have hzw2_ := hb2.size
    replace FN := Nat.le_trans FN hzw2_
    clear hS hb2
    have xBX00 := BX0.out 0 _ rfl
    have xBX01 := BX0.out 1 _ rfl
    go_wp2_with fail
    refine (TO0.out _).mono ?_
    rintro e w3_ ⟨rfl, hb3⟩
    clear xBX00 xBX01
    have hS := Sm.of_below hb3
    replace BX0 := Lib.hid (BX0.out.sm hS (by omega))
    replace FB := Lib.hid (below_step FB.out FN hb3)
    have hzw3_ := hb3.size
    replace FN := Nat.le_trans FN hzw3_
    clear hS hb3
    go_wp2_with fail
    refine (SP.out  _ ).mono ?_
    rintro e w4_ ⟨rfl, hb4⟩
    have hS := Sm.of_below hb4
    replace BX0 := Lib.hid (BX0.out.sm hS (by omega))
    replace FB := Lib.hid (below_step FB.out FN hb4)
    have hzw4_ := hb4.size
    replace FN := Nat.le_trans FN hzw4_
    clear hS hb4
    have xBX00 := BX0.out 0 _ rfl
    have xBX01 := BX0.out 1 _ rfl
    go_wp2_with fail
    refine (TO0.out _).mono ?_
    rintro e w5_ ⟨rfl, hb5⟩
    clear xBX00 xBX01
    have hS := Sm.of_below hb5
    replace BX0 := Lib.hid (BX0.out.sm hS (by omega))
    replace FB := Lib.hid (below_step FB.out FN hb5)
    have hzw5_ := hb5.size
    replace FN := Nat.le_trans FN hzw5_
    clear hS hb5
    go_wp2_with fail
    refine (IM.out  _ ).mono ?_
    rintro e w6_ ⟨rfl, hb6⟩
    have hS := Sm.of_below hb6
    replace BX0 := Lib.hid (BX0.out.sm hS (by omega))
    replace FB := Lib.hid (below_step FB.out FN hb6)
    have hzw6_ := hb6.size
    replace FN := Nat.le_trans FN hzw6_
    clear hS hb6
    go_wp2
    go_ret
    exact ⟨rfl, FB.out⟩
end Go.Proofs.Ytogoklgppepbjaa.fnExactValidChunk
