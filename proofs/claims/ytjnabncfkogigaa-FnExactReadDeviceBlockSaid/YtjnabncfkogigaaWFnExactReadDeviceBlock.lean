/- FnExactReadDeviceBlock: the law's walk. -/
import Derived.Test.YtjnabncfkogigaaSm
import Derived.Test.YtjnabncfkogigaaRecSm
import Derived.Test.YtjnabncfkogigaaBoxes
import Derived.Test.YtjnabncfkogigaaDevBlk
import Derived.Test.YtjnabncfkogigaaDevBlkSp
import Derived.Test.YtjnabncfkogigaaNestDevice
namespace Go.Proofs.Ytjnabncfkogigaa.fnExactReadDeviceBlock
open Go.RowKit
set_option linter.unusedVariables false
set_option maxRecDepth 20000 in
set_option maxHeartbeats 8000000 in
theorem walk (x0 : DeviceV) (s0_0 s0_1 : Option Addr) (cap0_0 cap0_1 : Nat) (a1 : Int) (w : World) (w0 : ArgDevice w s0_0 s0_1 x0) (w1 : (Lit.int .i64 a1).wf = true) :
    Calls Try.prog 6 #[.agg #[.int .i64 x0.f0.f0, .int .i64 x0.f0.f1, .int .i64 x0.f0.f2, .int .i64 x0.f0.f3, .slice s0_0 x0.f0.f4.length cap0_0, .int .i64 x0.f1, .int .i64 x0.f2, .slice s0_1 x0.f3.length cap0_1], .int .i64 a1] w fun e w' => e = .returned (.bool true) ∧ Below w.heap.size w w' := by
  obtain ⟨hm0, hsl0, v0⟩ := w0
  by_cases hk0 : wtDevice x0 ≤ 1048576
  case neg =>
    have SN0 := Lib.hid (fun w' (hb : Below w.heap.size w w') => (szDevice_any x0 s0_0 s0_1 cap0_0 cap0_1 1048576 w' (by omega) hm0 v0 (hsl0.below hb (Nat.le_refl _))).mono (fun e w'' ⟨he, hw⟩ => (show e = Ending.returned (.int .i64 (-1)) ∧ Below w'.heap.size w' w'' from ⟨by rw [he]; unfold szV; rw [if_neg hk0], hw⟩)))
    clear hsl0
    go_enter Try.func6, Try.ntmps6
    have FB := Lib.hid (show Below w.heap.size w w from Below.refl _ _)
    have FN : w.heap.size ≤ w.heap.size := Nat.le_refl _
    have hS := Sm.alloc w (.cells #[.int .i64 x0.f0.f0, .int .i64 x0.f0.f1, .int .i64 x0.f0.f2, .int .i64 x0.f0.f3, .slice s0_0 x0.f0.f4.length cap0_0, .int .i64 x0.f1, .int .i64 x0.f2, .slice s0_1 x0.f3.length cap0_1] 27)
    have BX0 := Lib.hid (BoxAt.new w #[.int .i64 x0.f0.f0, .int .i64 x0.f0.f1, .int .i64 x0.f0.f2, .int .i64 x0.f0.f3, .slice s0_0 x0.f0.f4.length cap0_0, .int .i64 x0.f1, .int .i64 x0.f2, .slice s0_1 x0.f3.length cap0_1] 27 w.heap.size rfl)
    replace FB := Lib.hid (below_new FB.out FN (.cells #[.int .i64 x0.f0.f0, .int .i64 x0.f0.f1, .int .i64 x0.f0.f2, .int .i64 x0.f0.f3, .slice s0_0 x0.f0.f4.length cap0_0, .int .i64 x0.f1, .int .i64 x0.f2, .slice s0_1 x0.f3.length cap0_1] 27))
    have hq1 : (w.alloc (.cells #[.int .i64 x0.f0.f0, .int .i64 x0.f0.f1, .int .i64 x0.f0.f2, .int .i64 x0.f0.f3, .slice s0_0 x0.f0.f4.length cap0_0, .int .i64 x0.f1, .int .i64 x0.f2, .slice s0_1 x0.f3.length cap0_1] 27)).heap.size = w.heap.size + 1 := by simp
    replace FN : w.heap.size ≤ (w.alloc (.cells #[.int .i64 x0.f0.f0, .int .i64 x0.f0.f1, .int .i64 x0.f0.f2, .int .i64 x0.f0.f3, .slice s0_0 x0.f0.f4.length cap0_0, .int .i64 x0.f1, .int .i64 x0.f2, .slice s0_1 x0.f3.length cap0_1] 27)).heap.size := by omega
    clear hS
    have xBX00 := BX0.out 0 _ rfl
    have xBX01 := BX0.out 1 _ rfl
    have xBX02 := BX0.out 2 _ rfl
    have xBX03 := BX0.out 3 _ rfl
    have xBX04 := BX0.out 4 _ rfl
    have xBX05 := BX0.out 5 _ rfl
    have xBX06 := BX0.out 6 _ rfl
    have xBX07 := BX0.out 7 _ rfl
    go_wp2_with fail
    refine (SN0.out _ FB.out).mono ?_
    rintro e w2_ ⟨rfl, hb2⟩
    clear xBX00 xBX01 xBX02 xBX03 xBX04 xBX05 xBX06 xBX07
    have hS := Sm.of_below hb2
    replace BX0 := Lib.hid (BX0.out.sm hS (by omega))
    replace FB := Lib.hid (below_step FB.out FN hb2)
    have hzw2_ := hb2.size
    replace FN := Nat.le_trans FN hzw2_
    clear hS hb2
    go_wp2
    go_ret
    exact ⟨rfl, FB.out⟩
  case pos =>
    have sz0 := fun w' (hb : Below w.heap.size w w') => (szDevice_any x0 s0_0 s0_1 cap0_0 cap0_1 1048576 w' (by omega) hm0 v0 (hsl0.below hb (Nat.le_refl _))).mono (fun e w'' ⟨he, hw⟩ => (show e = Ending.returned (.int .i64 ((1048576 - wtDevice x0 : Nat) : Int)) ∧ Below w'.heap.size w' w'' from ⟨by rw [he]; unfold szV; rw [if_pos hk0], hw⟩))
    obtain ⟨lf0, hlf0⟩ : ∃ m, 1048576 - wtDevice x0 = m := ⟨_, rfl⟩
    rw [hlf0] at sz0
    have hlfb0 : ¬ ((lf0 : Int) < 0) := by omega
    have hlfc0 : lf0 ≤ 1048576 := by omega
    have SZ0 := Lib.hid sz0; clear sz0
    have hn0 : LenDevice 1048576 x0 := wtDevice_len (by omega)
    have hv0 : StrDevice 1048576 x0 := wtDevice_str (by omega)
    have TO0 := Lib.hid (fun w' (hb : Below w.heap.size w w') => toDevice_any x0 s0_0 s0_1 cap0_0 cap0_1 w' hn0 (hsl0.below hb (Nat.le_refl _)))
    have EX0 := Lib.hid (fun y0 y1 d0 d1 z0 z1 e0 e1 w' (h1 : SlDevice w' y0 y1 x0) (h2 : SlDevice w' z0 z1 x0) => eqDevice_any true x0 y0 y1 d0 d1 x0 z0 z1 e0 e1 w' (by simp) (wtDevice_len (by omega)) (wtDevice_len (by omega)) h1 h2)
    have hsp := fun g0_0 g0_1 w' (h0 : SlDevice w' (some ⟨g0_0, 0, none⟩) (some ⟨g0_1, 0, none⟩) x0) => specReadDeviceBlock_any x0 (some ⟨g0_0, 0, none⟩) (some ⟨g0_1, 0, none⟩) (x0.f0.f4.length) (x0.f3.length) a1 hn0 hv0 w' h0
    have him := fun g0_0 g0_1 w' (h0 : SlDevice w' (some ⟨g0_0, 0, none⟩) (some ⟨g0_1, 0, none⟩) x0) => readDeviceBlock_any x0 (some ⟨g0_0, 0, none⟩) (some ⟨g0_1, 0, none⟩) (x0.f0.f4.length) (x0.f3.length) a1 hn0 hv0 w' h0
    generalize rdV x0 a1 = r0 at hsp him
    generalize rdC x0 a1 = r1 at hsp him
    have hvq1 : (r1 != r1) = false := by simp
    have SP := Lib.hid hsp; have IM := Lib.hid him; clear hsp him hsl0
    go_enter Try.func6, Try.ntmps6
    have FB := Lib.hid (show Below w.heap.size w w from Below.refl _ _)
    have FN : w.heap.size ≤ w.heap.size := Nat.le_refl _
    have hS := Sm.alloc w (.cells #[.int .i64 x0.f0.f0, .int .i64 x0.f0.f1, .int .i64 x0.f0.f2, .int .i64 x0.f0.f3, .slice s0_0 x0.f0.f4.length cap0_0, .int .i64 x0.f1, .int .i64 x0.f2, .slice s0_1 x0.f3.length cap0_1] 27)
    have BX0 := Lib.hid (BoxAt.new w #[.int .i64 x0.f0.f0, .int .i64 x0.f0.f1, .int .i64 x0.f0.f2, .int .i64 x0.f0.f3, .slice s0_0 x0.f0.f4.length cap0_0, .int .i64 x0.f1, .int .i64 x0.f2, .slice s0_1 x0.f3.length cap0_1] 27 w.heap.size rfl)
    replace FB := Lib.hid (below_new FB.out FN (.cells #[.int .i64 x0.f0.f0, .int .i64 x0.f0.f1, .int .i64 x0.f0.f2, .int .i64 x0.f0.f3, .slice s0_0 x0.f0.f4.length cap0_0, .int .i64 x0.f1, .int .i64 x0.f2, .slice s0_1 x0.f3.length cap0_1] 27))
    have hq1 : (w.alloc (.cells #[.int .i64 x0.f0.f0, .int .i64 x0.f0.f1, .int .i64 x0.f0.f2, .int .i64 x0.f0.f3, .slice s0_0 x0.f0.f4.length cap0_0, .int .i64 x0.f1, .int .i64 x0.f2, .slice s0_1 x0.f3.length cap0_1] 27)).heap.size = w.heap.size + 1 := by simp
    replace FN : w.heap.size ≤ (w.alloc (.cells #[.int .i64 x0.f0.f0, .int .i64 x0.f0.f1, .int .i64 x0.f0.f2, .int .i64 x0.f0.f3, .slice s0_0 x0.f0.f4.length cap0_0, .int .i64 x0.f1, .int .i64 x0.f2, .slice s0_1 x0.f3.length cap0_1] 27)).heap.size := by omega
    clear hS
    have xBX00 := BX0.out 0 _ rfl
    have xBX01 := BX0.out 1 _ rfl
    have xBX02 := BX0.out 2 _ rfl
    have xBX03 := BX0.out 3 _ rfl
    have xBX04 := BX0.out 4 _ rfl
    have xBX05 := BX0.out 5 _ rfl
    have xBX06 := BX0.out 6 _ rfl
    have xBX07 := BX0.out 7 _ rfl
    go_wp2_with fail
    refine (SZ0.out _ FB.out).mono ?_
    rintro e w2_ ⟨rfl, hb2⟩
    clear xBX00 xBX01 xBX02 xBX03 xBX04 xBX05 xBX06 xBX07
    have hS := Sm.of_below hb2
    replace BX0 := Lib.hid (BX0.out.sm hS (by omega))
    replace FB := Lib.hid (below_step FB.out FN hb2)
    have hzw2_ := hb2.size
    replace FN := Nat.le_trans FN hzw2_
    clear hS hb2
    have xBX00 := BX0.out 0 _ rfl
    have xBX01 := BX0.out 1 _ rfl
    have xBX02 := BX0.out 2 _ rfl
    have xBX03 := BX0.out 3 _ rfl
    have xBX04 := BX0.out 4 _ rfl
    have xBX05 := BX0.out 5 _ rfl
    have xBX06 := BX0.out 6 _ rfl
    have xBX07 := BX0.out 7 _ rfl
    go_wp2_with fail
    refine (TO0.out _ FB.out).mono ?_
    rintro e w3_ ⟨g3_0, g3_1, rfl, hrow3, hb3⟩
    clear xBX00 xBX01 xBX02 xBX03 xBX04 xBX05 xBX06 xBX07
    have hS := Sm.of_below hb3
    replace BX0 := Lib.hid (BX0.out.sm hS (by omega))
    replace FB := Lib.hid (below_step FB.out FN hb3)
    have hzw3_ := hb3.size
    replace FN := Nat.le_trans FN hzw3_
    clear hS hb3
    have R0 := Lib.hid hrow3
    clear hrow3
    go_wp2_with fail
    refine (SP.out _ _ _ R0.out.sl).mono ?_
    rintro e w4_ ⟨rfl, hb4⟩
    have hS := Sm.of_below hb4
    replace BX0 := Lib.hid (BX0.out.sm hS (by omega))
    replace R0 := Lib.hid (R0.out.sm hS (by omega))
    replace FB := Lib.hid (below_step FB.out FN hb4)
    have hzw4_ := hb4.size
    replace FN := Nat.le_trans FN hzw4_
    clear hS hb4
    clear R0
    have xBX00 := BX0.out 0 _ rfl
    have xBX01 := BX0.out 1 _ rfl
    have xBX02 := BX0.out 2 _ rfl
    have xBX03 := BX0.out 3 _ rfl
    have xBX04 := BX0.out 4 _ rfl
    have xBX05 := BX0.out 5 _ rfl
    have xBX06 := BX0.out 6 _ rfl
    have xBX07 := BX0.out 7 _ rfl
    go_wp2_with fail
    refine (TO0.out _ FB.out).mono ?_
    rintro e w5_ ⟨g5_0, g5_1, rfl, hrow5, hb5⟩
    clear xBX00 xBX01 xBX02 xBX03 xBX04 xBX05 xBX06 xBX07
    have hS := Sm.of_below hb5
    replace BX0 := Lib.hid (BX0.out.sm hS (by omega))
    replace FB := Lib.hid (below_step FB.out FN hb5)
    have hzw5_ := hb5.size
    replace FN := Nat.le_trans FN hzw5_
    clear hS hb5
    have X0 := Lib.hid hrow5
    clear hrow5
    have hS := Sm.alloc w5_ (.cells #[.int .i64 x0.f0.f0, .int .i64 x0.f0.f1, .int .i64 x0.f0.f2, .int .i64 x0.f0.f3, .slice (some ⟨g5_0, 0, none⟩) x0.f0.f4.length x0.f0.f4.length, .int .i64 x0.f1, .int .i64 x0.f2, .slice (some ⟨g5_1, 0, none⟩) x0.f3.length x0.f3.length] 34)
    replace BX0 := Lib.hid (BX0.out.sm hS (by omega))
    replace X0 := Lib.hid (X0.out.sm hS (by omega))
    have CX0 := Lib.hid (BoxAt.new w5_ #[.int .i64 x0.f0.f0, .int .i64 x0.f0.f1, .int .i64 x0.f0.f2, .int .i64 x0.f0.f3, .slice (some ⟨g5_0, 0, none⟩) x0.f0.f4.length x0.f0.f4.length, .int .i64 x0.f1, .int .i64 x0.f2, .slice (some ⟨g5_1, 0, none⟩) x0.f3.length x0.f3.length] 34 w5_.heap.size rfl)
    replace FB := Lib.hid (below_new FB.out FN (.cells #[.int .i64 x0.f0.f0, .int .i64 x0.f0.f1, .int .i64 x0.f0.f2, .int .i64 x0.f0.f3, .slice (some ⟨g5_0, 0, none⟩) x0.f0.f4.length x0.f0.f4.length, .int .i64 x0.f1, .int .i64 x0.f2, .slice (some ⟨g5_1, 0, none⟩) x0.f3.length x0.f3.length] 34))
    have hq6 : (w5_.alloc (.cells #[.int .i64 x0.f0.f0, .int .i64 x0.f0.f1, .int .i64 x0.f0.f2, .int .i64 x0.f0.f3, .slice (some ⟨g5_0, 0, none⟩) x0.f0.f4.length x0.f0.f4.length, .int .i64 x0.f1, .int .i64 x0.f2, .slice (some ⟨g5_1, 0, none⟩) x0.f3.length x0.f3.length] 34)).heap.size = w5_.heap.size + 1 := by simp
    replace FN : w.heap.size ≤ (w5_.alloc (.cells #[.int .i64 x0.f0.f0, .int .i64 x0.f0.f1, .int .i64 x0.f0.f2, .int .i64 x0.f0.f3, .slice (some ⟨g5_0, 0, none⟩) x0.f0.f4.length x0.f0.f4.length, .int .i64 x0.f1, .int .i64 x0.f2, .slice (some ⟨g5_1, 0, none⟩) x0.f3.length x0.f3.length] 34)).heap.size := by omega
    clear hS
    have xCX00 := CX0.out 0 _ rfl
    have xCX01 := CX0.out 1 _ rfl
    have xCX02 := CX0.out 2 _ rfl
    have xCX03 := CX0.out 3 _ rfl
    have xCX04 := CX0.out 4 _ rfl
    have xCX05 := CX0.out 5 _ rfl
    have xCX06 := CX0.out 6 _ rfl
    have xCX07 := CX0.out 7 _ rfl
    go_wp2_with fail
    refine (IM.out _ _ _ X0.out.sl).mono ?_
    rintro e w7_ ⟨rfl, hb7⟩
    clear xCX00 xCX01 xCX02 xCX03 xCX04 xCX05 xCX06 xCX07
    have hS := Sm.of_below hb7
    replace BX0 := Lib.hid (BX0.out.sm hS (by omega))
    replace X0 := Lib.hid (X0.out.sm hS (by omega))
    replace CX0 := Lib.hid (CX0.out.sm hS (by omega))
    replace FB := Lib.hid (below_step FB.out FN hb7)
    have hzw7_ := hb7.size
    replace FN := Nat.le_trans FN hzw7_
    clear hS hb7
    have hlCX0 := CX0.out.lt (by simp)
    have hlBX0 := BX0.out.lt (by simp)
    have xCX00 := CX0.out 0 _ rfl
    have xCX01 := CX0.out 1 _ rfl
    have xCX02 := CX0.out 2 _ rfl
    have xCX03 := CX0.out 3 _ rfl
    have xCX04 := CX0.out 4 _ rfl
    have xCX05 := CX0.out 5 _ rfl
    have xCX06 := CX0.out 6 _ rfl
    have xCX07 := CX0.out 7 _ rfl
    have xBX00 := BX0.out 0 _ rfl
    have xBX01 := BX0.out 1 _ rfl
    have xBX02 := BX0.out 2 _ rfl
    have xBX03 := BX0.out 3 _ rfl
    have xBX04 := BX0.out 4 _ rfl
    have xBX05 := BX0.out 5 _ rfl
    have xBX06 := BX0.out 6 _ rfl
    have xBX07 := BX0.out 7 _ rfl
    have KS := Lib.hid (fun w' (hb : Below w7_.heap.size w7_ w') => (show (w'.cell? ⟨w5_.heap.size, 0, none⟩ = some (.int .i64 x0.f0.f0) ∧ w'.cell? ⟨w5_.heap.size, 1, none⟩ = some (.int .i64 x0.f0.f1) ∧ w'.cell? ⟨w5_.heap.size, 2, none⟩ = some (.int .i64 x0.f0.f2) ∧ w'.cell? ⟨w5_.heap.size, 3, none⟩ = some (.int .i64 x0.f0.f3) ∧ w'.cell? ⟨w5_.heap.size, 4, none⟩ = some (.slice (some ⟨g5_0, 0, none⟩) x0.f0.f4.length x0.f0.f4.length) ∧ w'.cell? ⟨w5_.heap.size, 5, none⟩ = some (.int .i64 x0.f1) ∧ w'.cell? ⟨w5_.heap.size, 6, none⟩ = some (.int .i64 x0.f2) ∧ w'.cell? ⟨w5_.heap.size, 7, none⟩ = some (.slice (some ⟨g5_1, 0, none⟩) x0.f3.length x0.f3.length)) ∧ (w'.cell? ⟨w.heap.size, 0, none⟩ = some (.int .i64 x0.f0.f0) ∧ w'.cell? ⟨w.heap.size, 1, none⟩ = some (.int .i64 x0.f0.f1) ∧ w'.cell? ⟨w.heap.size, 2, none⟩ = some (.int .i64 x0.f0.f2) ∧ w'.cell? ⟨w.heap.size, 3, none⟩ = some (.int .i64 x0.f0.f3) ∧ w'.cell? ⟨w.heap.size, 4, none⟩ = some (.slice s0_0 x0.f0.f4.length cap0_0) ∧ w'.cell? ⟨w.heap.size, 5, none⟩ = some (.int .i64 x0.f1) ∧ w'.cell? ⟨w.heap.size, 6, none⟩ = some (.int .i64 x0.f2) ∧ w'.cell? ⟨w.heap.size, 7, none⟩ = some (.slice s0_1 x0.f3.length cap0_1)) from ⟨⟨(CX0.out.below hb hlCX0) 0 _ rfl, (CX0.out.below hb hlCX0) 1 _ rfl, (CX0.out.below hb hlCX0) 2 _ rfl, (CX0.out.below hb hlCX0) 3 _ rfl, (CX0.out.below hb hlCX0) 4 _ rfl, (CX0.out.below hb hlCX0) 5 _ rfl, (CX0.out.below hb hlCX0) 6 _ rfl, (CX0.out.below hb hlCX0) 7 _ rfl⟩, ⟨(BX0.out.below hb hlBX0) 0 _ rfl, (BX0.out.below hb hlBX0) 1 _ rfl, (BX0.out.below hb hlBX0) 2 _ rfl, (BX0.out.below hb hlBX0) 3 _ rfl, (BX0.out.below hb hlBX0) 4 _ rfl, (BX0.out.below hb hlBX0) 5 _ rfl, (BX0.out.below hb hlBX0) 6 _ rfl, (BX0.out.below hb hlBX0) 7 _ rfl⟩⟩))
    have hks : (w7_.cell? ⟨w5_.heap.size, 0, none⟩ = some (.int .i64 x0.f0.f0) ∧ w7_.cell? ⟨w5_.heap.size, 1, none⟩ = some (.int .i64 x0.f0.f1) ∧ w7_.cell? ⟨w5_.heap.size, 2, none⟩ = some (.int .i64 x0.f0.f2) ∧ w7_.cell? ⟨w5_.heap.size, 3, none⟩ = some (.int .i64 x0.f0.f3) ∧ w7_.cell? ⟨w5_.heap.size, 4, none⟩ = some (.slice (some ⟨g5_0, 0, none⟩) x0.f0.f4.length x0.f0.f4.length) ∧ w7_.cell? ⟨w5_.heap.size, 5, none⟩ = some (.int .i64 x0.f1) ∧ w7_.cell? ⟨w5_.heap.size, 6, none⟩ = some (.int .i64 x0.f2) ∧ w7_.cell? ⟨w5_.heap.size, 7, none⟩ = some (.slice (some ⟨g5_1, 0, none⟩) x0.f3.length x0.f3.length)) ∧ (w7_.cell? ⟨w.heap.size, 0, none⟩ = some (.int .i64 x0.f0.f0) ∧ w7_.cell? ⟨w.heap.size, 1, none⟩ = some (.int .i64 x0.f0.f1) ∧ w7_.cell? ⟨w.heap.size, 2, none⟩ = some (.int .i64 x0.f0.f2) ∧ w7_.cell? ⟨w.heap.size, 3, none⟩ = some (.int .i64 x0.f0.f3) ∧ w7_.cell? ⟨w.heap.size, 4, none⟩ = some (.slice s0_0 x0.f0.f4.length cap0_0) ∧ w7_.cell? ⟨w.heap.size, 5, none⟩ = some (.int .i64 x0.f1) ∧ w7_.cell? ⟨w.heap.size, 6, none⟩ = some (.int .i64 x0.f2) ∧ w7_.cell? ⟨w.heap.size, 7, none⟩ = some (.slice s0_1 x0.f3.length cap0_1)) := KS.out _ (Below.refl _ _)
    have FBX := Lib.hid (fun w' (hb : Below w7_.heap.size w7_ w') => (show Below w.heap.size w w' from FB.out.trans (hb.mono FN)))
    have HC := Lib.hid (show Below w7_.heap.size w7_ w7_.drew from (Below.refl _ _).drew)
    replace X0 := Lib.hid X0.out.drew
    go_wp2
    go_region_held3 (fun w' => (w'.cell? ⟨w5_.heap.size, 0, none⟩ = some (.int .i64 x0.f0.f0) ∧ w'.cell? ⟨w5_.heap.size, 1, none⟩ = some (.int .i64 x0.f0.f1) ∧ w'.cell? ⟨w5_.heap.size, 2, none⟩ = some (.int .i64 x0.f0.f2) ∧ w'.cell? ⟨w5_.heap.size, 3, none⟩ = some (.int .i64 x0.f0.f3) ∧ w'.cell? ⟨w5_.heap.size, 4, none⟩ = some (.slice (some ⟨g5_0, 0, none⟩) x0.f0.f4.length x0.f0.f4.length) ∧ w'.cell? ⟨w5_.heap.size, 5, none⟩ = some (.int .i64 x0.f1) ∧ w'.cell? ⟨w5_.heap.size, 6, none⟩ = some (.int .i64 x0.f2) ∧ w'.cell? ⟨w5_.heap.size, 7, none⟩ = some (.slice (some ⟨g5_1, 0, none⟩) x0.f3.length x0.f3.length)) ∧ (w'.cell? ⟨w.heap.size, 0, none⟩ = some (.int .i64 x0.f0.f0) ∧ w'.cell? ⟨w.heap.size, 1, none⟩ = some (.int .i64 x0.f0.f1) ∧ w'.cell? ⟨w.heap.size, 2, none⟩ = some (.int .i64 x0.f0.f2) ∧ w'.cell? ⟨w.heap.size, 3, none⟩ = some (.int .i64 x0.f0.f3) ∧ w'.cell? ⟨w.heap.size, 4, none⟩ = some (.slice s0_0 x0.f0.f4.length cap0_0) ∧ w'.cell? ⟨w.heap.size, 5, none⟩ = some (.int .i64 x0.f1) ∧ w'.cell? ⟨w.heap.size, 6, none⟩ = some (.int .i64 x0.f2) ∧ w'.cell? ⟨w.heap.size, 7, none⟩ = some (.slice s0_1 x0.f3.length cap0_1)))
      (first | (with_reducible exact KS.out _ HC.out) | (with_reducible exact KS.out _ (HC.out.alloc HC.out.size _)) | go_keep)
      (first
        | (go_at_call 13; ((with_reducible refine (TO0.out _ (FBX.out _ HC.out)).mono ?_); rintro e wt0 ⟨gt0_0, gt0_1, rfl, hrowt0, hbt0⟩; (try (replace X0 := Lib.hid (X0.out.sm (Sm.of_below hbt0) (by omega)))); (try (replace Y0 := Lib.hid (Y0.out.sm (Sm.of_below hbt0) (by omega)))); replace HC := Lib.hid (HC.out.trans (hbt0.mono HC.out.size)); have Y0 := Lib.hid hrowt0))
        | (go_at_call 15; ((with_reducible refine (EX0.out _ _ _ _ _ _ _ _ _ X0.out.sl Y0.out.sl).mono ?_); rintro e w8_ ⟨rfl, hb8⟩; have hbf8 := HC.out.size; (try (replace X0 := Lib.hid (X0.out.sm (Sm.of_below hb8) (by omega)))); (try (replace Y0 := Lib.hid (Y0.out.sm (Sm.of_below hb8) (by omega)))); replace HC := Lib.hid (HC.out.trans (hb8.mono HC.out.size)); skip))
        | fail)
    all_goals
      replace CX0 := Lib.hid (CX0.out.below HC.out hlCX0)
      replace BX0 := Lib.hid (BX0.out.below HC.out hlBX0)
      replace FB := Lib.hid (FBX.out _ HC.out)
      have hzz8 := HC.out.size
      replace FN := Nat.le_trans FN hzz8
      clear hks KS HC FBX hlCX0 hlBX0
      clear hbf8
      clear xCX00 xCX01 xCX02 xCX03 xCX04 xCX05 xCX06 xCX07
      clear xBX00 xBX01 xBX02 xBX03 xBX04 xBX05 xBX06 xBX07
      clear hrowt0
      clear hbt0
      clear Y0
      go_wp2
      go_ret
      exact ⟨rfl, FB.out⟩
end Go.Proofs.Ytjnabncfkogigaa.fnExactReadDeviceBlock
