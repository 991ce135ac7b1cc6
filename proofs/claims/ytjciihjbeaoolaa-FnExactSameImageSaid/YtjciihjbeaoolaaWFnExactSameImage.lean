/- FnExactSameImage: the law's walk. -/
import Derived.Test.YtjciihjbeaoolaaSm
import Derived.Test.YtjciihjbeaoolaaRecSm
import Derived.Test.YtjciihjbeaoolaaBoxes
import Derived.Test.YtjciihjbeaoolaaImgSame
import Derived.Test.YtjciihjbeaoolaaNestImage
namespace Go.Proofs.Ytjciihjbeaoolaa.fnExactSameImage
open Go.RowKit
set_option linter.unusedVariables false
set_option maxRecDepth 20000 in
set_option maxHeartbeats 8000000 in
theorem walk (x0 : ImageV) (s0_0 s0_1 : Option Addr) (cap0_0 cap0_1 : Nat) (x1 : ImageV) (s1_0 s1_1 : Option Addr) (cap1_0 cap1_1 : Nat) (w : World) (w0 : ArgImage w s0_0 s0_1 x0) (w1 : ArgImage w s1_0 s1_1 x1) :
    Calls Try.prog 3 #[.agg #[.int .i64 x0.f0.f0, .int .i64 x0.f0.f1, .int .i64 x0.f0.f2, .int .i64 x0.f0.f3, .slice s0_0 x0.f0.f4.length cap0_0, .slice s0_1 x0.f1.length cap0_1], .agg #[.int .i64 x1.f0.f0, .int .i64 x1.f0.f1, .int .i64 x1.f0.f2, .int .i64 x1.f0.f3, .slice s1_0 x1.f0.f4.length cap1_0, .slice s1_1 x1.f1.length cap1_1]] w fun e w' => e = .returned (.bool true) ∧ Below w.heap.size w w' := by
  obtain ⟨hm0, hsl0, v0⟩ := w0
  obtain ⟨hm1, hsl1, v1⟩ := w1
  by_cases hk0 : wtImage x0 ≤ 1048576
  case neg =>
    have SN0 := Lib.hid (fun w' (hb : Below w.heap.size w w') => (szImage_any x0 s0_0 s0_1 cap0_0 cap0_1 1048576 w' (by omega) hm0 v0 (hsl0.below hb (Nat.le_refl _))).mono (fun e w'' ⟨he, hw⟩ => (show e = Ending.returned (.int .i64 (-1)) ∧ Below w'.heap.size w' w'' from ⟨by rw [he]; unfold szV; rw [if_neg hk0], hw⟩)))
    clear hsl0 hsl1
    go_enter Try.func3, Try.ntmps3
    have FB := Lib.hid (show Below w.heap.size w w from Below.refl _ _)
    have FN : w.heap.size ≤ w.heap.size := Nat.le_refl _
    have hS := Sm.alloc w (.cells #[.int .i64 x0.f0.f0, .int .i64 x0.f0.f1, .int .i64 x0.f0.f2, .int .i64 x0.f0.f3, .slice s0_0 x0.f0.f4.length cap0_0, .slice s0_1 x0.f1.length cap0_1] 27)
    have BX0 := Lib.hid (BoxAt.new w #[.int .i64 x0.f0.f0, .int .i64 x0.f0.f1, .int .i64 x0.f0.f2, .int .i64 x0.f0.f3, .slice s0_0 x0.f0.f4.length cap0_0, .slice s0_1 x0.f1.length cap0_1] 27 w.heap.size rfl)
    replace FB := Lib.hid (below_new FB.out FN (.cells #[.int .i64 x0.f0.f0, .int .i64 x0.f0.f1, .int .i64 x0.f0.f2, .int .i64 x0.f0.f3, .slice s0_0 x0.f0.f4.length cap0_0, .slice s0_1 x0.f1.length cap0_1] 27))
    have hq1 : (w.alloc (.cells #[.int .i64 x0.f0.f0, .int .i64 x0.f0.f1, .int .i64 x0.f0.f2, .int .i64 x0.f0.f3, .slice s0_0 x0.f0.f4.length cap0_0, .slice s0_1 x0.f1.length cap0_1] 27)).heap.size = w.heap.size + 1 := by simp
    replace FN : w.heap.size ≤ (w.alloc (.cells #[.int .i64 x0.f0.f0, .int .i64 x0.f0.f1, .int .i64 x0.f0.f2, .int .i64 x0.f0.f3, .slice s0_0 x0.f0.f4.length cap0_0, .slice s0_1 x0.f1.length cap0_1] 27)).heap.size := by omega
    clear hS
    have hS := Sm.alloc (w.alloc (.cells #[.int .i64 x0.f0.f0, .int .i64 x0.f0.f1, .int .i64 x0.f0.f2, .int .i64 x0.f0.f3, .slice s0_0 x0.f0.f4.length cap0_0, .slice s0_1 x0.f1.length cap0_1] 27)) (.cells #[.int .i64 x1.f0.f0, .int .i64 x1.f0.f1, .int .i64 x1.f0.f2, .int .i64 x1.f0.f3, .slice s1_0 x1.f0.f4.length cap1_0, .slice s1_1 x1.f1.length cap1_1] 27)
    replace BX0 := Lib.hid (BX0.out.sm hS (by omega))
    have BX1 := Lib.hid (BoxAt.new (w.alloc (.cells #[.int .i64 x0.f0.f0, .int .i64 x0.f0.f1, .int .i64 x0.f0.f2, .int .i64 x0.f0.f3, .slice s0_0 x0.f0.f4.length cap0_0, .slice s0_1 x0.f1.length cap0_1] 27)) #[.int .i64 x1.f0.f0, .int .i64 x1.f0.f1, .int .i64 x1.f0.f2, .int .i64 x1.f0.f3, .slice s1_0 x1.f0.f4.length cap1_0, .slice s1_1 x1.f1.length cap1_1] 27 (w.heap.size + 1) (by simp))
    replace FB := Lib.hid (below_new FB.out FN (.cells #[.int .i64 x1.f0.f0, .int .i64 x1.f0.f1, .int .i64 x1.f0.f2, .int .i64 x1.f0.f3, .slice s1_0 x1.f0.f4.length cap1_0, .slice s1_1 x1.f1.length cap1_1] 27))
    have hq2 : ((w.alloc (.cells #[.int .i64 x0.f0.f0, .int .i64 x0.f0.f1, .int .i64 x0.f0.f2, .int .i64 x0.f0.f3, .slice s0_0 x0.f0.f4.length cap0_0, .slice s0_1 x0.f1.length cap0_1] 27)).alloc (.cells #[.int .i64 x1.f0.f0, .int .i64 x1.f0.f1, .int .i64 x1.f0.f2, .int .i64 x1.f0.f3, .slice s1_0 x1.f0.f4.length cap1_0, .slice s1_1 x1.f1.length cap1_1] 27)).heap.size = (w.alloc (.cells #[.int .i64 x0.f0.f0, .int .i64 x0.f0.f1, .int .i64 x0.f0.f2, .int .i64 x0.f0.f3, .slice s0_0 x0.f0.f4.length cap0_0, .slice s0_1 x0.f1.length cap0_1] 27)).heap.size + 1 := by simp
    replace FN : w.heap.size ≤ ((w.alloc (.cells #[.int .i64 x0.f0.f0, .int .i64 x0.f0.f1, .int .i64 x0.f0.f2, .int .i64 x0.f0.f3, .slice s0_0 x0.f0.f4.length cap0_0, .slice s0_1 x0.f1.length cap0_1] 27)).alloc (.cells #[.int .i64 x1.f0.f0, .int .i64 x1.f0.f1, .int .i64 x1.f0.f2, .int .i64 x1.f0.f3, .slice s1_0 x1.f0.f4.length cap1_0, .slice s1_1 x1.f1.length cap1_1] 27)).heap.size := by omega
    clear hS
    have xBX00 := BX0.out 0 _ rfl
    have xBX01 := BX0.out 1 _ rfl
    have xBX02 := BX0.out 2 _ rfl
    have xBX03 := BX0.out 3 _ rfl
    have xBX04 := BX0.out 4 _ rfl
    have xBX05 := BX0.out 5 _ rfl
    go_wp2_with fail
    refine (SN0.out _ FB.out).mono ?_
    rintro e w3_ ⟨rfl, hb3⟩
    clear xBX00 xBX01 xBX02 xBX03 xBX04 xBX05
    have hS := Sm.of_below hb3
    replace BX0 := Lib.hid (BX0.out.sm hS (by omega))
    replace BX1 := Lib.hid (BX1.out.sm hS (by omega))
    replace FB := Lib.hid (below_step FB.out FN hb3)
    have hzw3_ := hb3.size
    replace FN := Nat.le_trans FN hzw3_
    clear hS hb3
    go_wp2
    go_ret
    exact ⟨rfl, FB.out⟩
  case pos =>
    have sz0 := fun w' (hb : Below w.heap.size w w') => (szImage_any x0 s0_0 s0_1 cap0_0 cap0_1 1048576 w' (by omega) hm0 v0 (hsl0.below hb (Nat.le_refl _))).mono (fun e w'' ⟨he, hw⟩ => (show e = Ending.returned (.int .i64 ((1048576 - wtImage x0 : Nat) : Int)) ∧ Below w'.heap.size w' w'' from ⟨by rw [he]; unfold szV; rw [if_pos hk0], hw⟩))
    obtain ⟨lf0, hlf0⟩ : ∃ m, 1048576 - wtImage x0 = m := ⟨_, rfl⟩
    rw [hlf0] at sz0
    have hlfb0 : ¬ ((lf0 : Int) < 0) := by omega
    have hlfc0 : lf0 ≤ 1048576 := by omega
    have SZ0 := Lib.hid sz0; clear sz0
    by_cases hk1 : wtImage x1 ≤ lf0
    case neg =>
      have SN1 := Lib.hid (fun w' (hb : Below w.heap.size w w') => (szImage_any x1 s1_0 s1_1 cap1_0 cap1_1 lf0 w' (by omega) hm1 v1 (hsl1.below hb (Nat.le_refl _))).mono (fun e w'' ⟨he, hw⟩ => (show e = Ending.returned (.int .i64 (-1)) ∧ Below w'.heap.size w' w'' from ⟨by rw [he]; unfold szV; rw [if_neg hk1], hw⟩)))
      clear hsl0 hsl1
      go_enter Try.func3, Try.ntmps3
      have FB := Lib.hid (show Below w.heap.size w w from Below.refl _ _)
      have FN : w.heap.size ≤ w.heap.size := Nat.le_refl _
      have hS := Sm.alloc w (.cells #[.int .i64 x0.f0.f0, .int .i64 x0.f0.f1, .int .i64 x0.f0.f2, .int .i64 x0.f0.f3, .slice s0_0 x0.f0.f4.length cap0_0, .slice s0_1 x0.f1.length cap0_1] 27)
      have BX0 := Lib.hid (BoxAt.new w #[.int .i64 x0.f0.f0, .int .i64 x0.f0.f1, .int .i64 x0.f0.f2, .int .i64 x0.f0.f3, .slice s0_0 x0.f0.f4.length cap0_0, .slice s0_1 x0.f1.length cap0_1] 27 w.heap.size rfl)
      replace FB := Lib.hid (below_new FB.out FN (.cells #[.int .i64 x0.f0.f0, .int .i64 x0.f0.f1, .int .i64 x0.f0.f2, .int .i64 x0.f0.f3, .slice s0_0 x0.f0.f4.length cap0_0, .slice s0_1 x0.f1.length cap0_1] 27))
      have hq1 : (w.alloc (.cells #[.int .i64 x0.f0.f0, .int .i64 x0.f0.f1, .int .i64 x0.f0.f2, .int .i64 x0.f0.f3, .slice s0_0 x0.f0.f4.length cap0_0, .slice s0_1 x0.f1.length cap0_1] 27)).heap.size = w.heap.size + 1 := by simp
      replace FN : w.heap.size ≤ (w.alloc (.cells #[.int .i64 x0.f0.f0, .int .i64 x0.f0.f1, .int .i64 x0.f0.f2, .int .i64 x0.f0.f3, .slice s0_0 x0.f0.f4.length cap0_0, .slice s0_1 x0.f1.length cap0_1] 27)).heap.size := by omega
      clear hS
      have hS := Sm.alloc (w.alloc (.cells #[.int .i64 x0.f0.f0, .int .i64 x0.f0.f1, .int .i64 x0.f0.f2, .int .i64 x0.f0.f3, .slice s0_0 x0.f0.f4.length cap0_0, .slice s0_1 x0.f1.length cap0_1] 27)) (.cells #[.int .i64 x1.f0.f0, .int .i64 x1.f0.f1, .int .i64 x1.f0.f2, .int .i64 x1.f0.f3, .slice s1_0 x1.f0.f4.length cap1_0, .slice s1_1 x1.f1.length cap1_1] 27)
      replace BX0 := Lib.hid (BX0.out.sm hS (by omega))
      have BX1 := Lib.hid (BoxAt.new (w.alloc (.cells #[.int .i64 x0.f0.f0, .int .i64 x0.f0.f1, .int .i64 x0.f0.f2, .int .i64 x0.f0.f3, .slice s0_0 x0.f0.f4.length cap0_0, .slice s0_1 x0.f1.length cap0_1] 27)) #[.int .i64 x1.f0.f0, .int .i64 x1.f0.f1, .int .i64 x1.f0.f2, .int .i64 x1.f0.f3, .slice s1_0 x1.f0.f4.length cap1_0, .slice s1_1 x1.f1.length cap1_1] 27 (w.heap.size + 1) (by simp))
      replace FB := Lib.hid (below_new FB.out FN (.cells #[.int .i64 x1.f0.f0, .int .i64 x1.f0.f1, .int .i64 x1.f0.f2, .int .i64 x1.f0.f3, .slice s1_0 x1.f0.f4.length cap1_0, .slice s1_1 x1.f1.length cap1_1] 27))
      have hq2 : ((w.alloc (.cells #[.int .i64 x0.f0.f0, .int .i64 x0.f0.f1, .int .i64 x0.f0.f2, .int .i64 x0.f0.f3, .slice s0_0 x0.f0.f4.length cap0_0, .slice s0_1 x0.f1.length cap0_1] 27)).alloc (.cells #[.int .i64 x1.f0.f0, .int .i64 x1.f0.f1, .int .i64 x1.f0.f2, .int .i64 x1.f0.f3, .slice s1_0 x1.f0.f4.length cap1_0, .slice s1_1 x1.f1.length cap1_1] 27)).heap.size = (w.alloc (.cells #[.int .i64 x0.f0.f0, .int .i64 x0.f0.f1, .int .i64 x0.f0.f2, .int .i64 x0.f0.f3, .slice s0_0 x0.f0.f4.length cap0_0, .slice s0_1 x0.f1.length cap0_1] 27)).heap.size + 1 := by simp
      replace FN : w.heap.size ≤ ((w.alloc (.cells #[.int .i64 x0.f0.f0, .int .i64 x0.f0.f1, .int .i64 x0.f0.f2, .int .i64 x0.f0.f3, .slice s0_0 x0.f0.f4.length cap0_0, .slice s0_1 x0.f1.length cap0_1] 27)).alloc (.cells #[.int .i64 x1.f0.f0, .int .i64 x1.f0.f1, .int .i64 x1.f0.f2, .int .i64 x1.f0.f3, .slice s1_0 x1.f0.f4.length cap1_0, .slice s1_1 x1.f1.length cap1_1] 27)).heap.size := by omega
      clear hS
      have xBX00 := BX0.out 0 _ rfl
      have xBX01 := BX0.out 1 _ rfl
      have xBX02 := BX0.out 2 _ rfl
      have xBX03 := BX0.out 3 _ rfl
      have xBX04 := BX0.out 4 _ rfl
      have xBX05 := BX0.out 5 _ rfl
      go_wp2_with fail
      refine (SZ0.out _ FB.out).mono ?_
      rintro e w3_ ⟨rfl, hb3⟩
      clear xBX00 xBX01 xBX02 xBX03 xBX04 xBX05
      have hS := Sm.of_below hb3
      replace BX0 := Lib.hid (BX0.out.sm hS (by omega))
      replace BX1 := Lib.hid (BX1.out.sm hS (by omega))
      replace FB := Lib.hid (below_step FB.out FN hb3)
      have hzw3_ := hb3.size
      replace FN := Nat.le_trans FN hzw3_
      clear hS hb3
      have xBX10 := BX1.out 0 _ rfl
      have xBX11 := BX1.out 1 _ rfl
      have xBX12 := BX1.out 2 _ rfl
      have xBX13 := BX1.out 3 _ rfl
      have xBX14 := BX1.out 4 _ rfl
      have xBX15 := BX1.out 5 _ rfl
      go_wp2_with fail
      refine (SN1.out _ FB.out).mono ?_
      rintro e w4_ ⟨rfl, hb4⟩
      clear xBX10 xBX11 xBX12 xBX13 xBX14 xBX15
      have hS := Sm.of_below hb4
      replace BX0 := Lib.hid (BX0.out.sm hS (by omega))
      replace BX1 := Lib.hid (BX1.out.sm hS (by omega))
      replace FB := Lib.hid (below_step FB.out FN hb4)
      have hzw4_ := hb4.size
      replace FN := Nat.le_trans FN hzw4_
      clear hS hb4
      go_wp2
      go_ret
      exact ⟨rfl, FB.out⟩
    case pos =>
      have sz1 := fun w' (hb : Below w.heap.size w w') => (szImage_any x1 s1_0 s1_1 cap1_0 cap1_1 lf0 w' (by omega) hm1 v1 (hsl1.below hb (Nat.le_refl _))).mono (fun e w'' ⟨he, hw⟩ => (show e = Ending.returned (.int .i64 ((lf0 - wtImage x1 : Nat) : Int)) ∧ Below w'.heap.size w' w'' from ⟨by rw [he]; unfold szV; rw [if_pos hk1], hw⟩))
      obtain ⟨lf1, hlf1⟩ : ∃ m, lf0 - wtImage x1 = m := ⟨_, rfl⟩
      rw [hlf1] at sz1
      have hlfb1 : ¬ ((lf1 : Int) < 0) := by omega
      have hlfc1 : lf1 ≤ 1048576 := by omega
      have SZ1 := Lib.hid sz1; clear sz1
      have hn0 : LenImage 1048576 x0 := wtImage_len (by omega)
      have hv0 : StrImage 1048576 x0 := wtImage_str (by omega)
      have hn1 : LenImage 1048576 x1 := wtImage_len (by omega)
      have hv1 : StrImage 1048576 x1 := wtImage_str (by omega)
      have TO0 := Lib.hid (fun w' (hb : Below w.heap.size w w') => toImage_any x0 s0_0 s0_1 cap0_0 cap0_1 w' hn0 (hsl0.below hb (Nat.le_refl _)))
      have EX0 := Lib.hid (fun y0 y1 d0 d1 z0 z1 e0 e1 w' (h1 : SlImage w' y0 y1 x0) (h2 : SlImage w' z0 z1 x0) => eqImage_any true x0 y0 y1 d0 d1 x0 z0 z1 e0 e1 w' (by simp) (wtImage_len (by omega)) (wtImage_len (by omega)) h1 h2)
      have TO1 := Lib.hid (fun w' (hb : Below w.heap.size w w') => toImage_any x1 s1_0 s1_1 cap1_0 cap1_1 w' hn1 (hsl1.below hb (Nat.le_refl _)))
      have EX1 := Lib.hid (fun y0 y1 d0 d1 z0 z1 e0 e1 w' (h1 : SlImage w' y0 y1 x1) (h2 : SlImage w' z0 z1 x1) => eqImage_any true x1 y0 y1 d0 d1 x1 z0 z1 e0 e1 w' (by simp) (wtImage_len (by omega)) (wtImage_len (by omega)) h1 h2)
      have hsp := fun g0_0 g0_1 g1_0 g1_1 w' (h0 : SlImage w' (some ⟨g0_0, 0, none⟩) (some ⟨g0_1, 0, none⟩) x0) (h1 : SlImage w' (some ⟨g1_0, 0, none⟩) (some ⟨g1_1, 0, none⟩) x1) => specSameImage_any x0 (some ⟨g0_0, 0, none⟩) (some ⟨g0_1, 0, none⟩) (x0.f0.f4.length) (x0.f1.length) x1 (some ⟨g1_0, 0, none⟩) (some ⟨g1_1, 0, none⟩) (x1.f0.f4.length) (x1.f1.length) hn0 hv0 hn1 hv1 w' h0 h1
      have him := fun g0_0 g0_1 g1_0 g1_1 w' (h0 : SlImage w' (some ⟨g0_0, 0, none⟩) (some ⟨g0_1, 0, none⟩) x0) (h1 : SlImage w' (some ⟨g1_0, 0, none⟩) (some ⟨g1_1, 0, none⟩) x1) => sameImage_any x0 (some ⟨g0_0, 0, none⟩) (some ⟨g0_1, 0, none⟩) (x0.f0.f4.length) (x0.f1.length) x1 (some ⟨g1_0, 0, none⟩) (some ⟨g1_1, 0, none⟩) (x1.f0.f4.length) (x1.f1.length) hn0 hv0 hn1 hv1 w' h0 h1
      generalize sameImgB x0 x1 = r0 at hsp him
      have hvq0 : (r0 != r0) = false := by simp
      have SP := Lib.hid hsp; have IM := Lib.hid him; clear hsp him hsl0 hsl1
      go_enter Try.func3, Try.ntmps3
      have FB := Lib.hid (show Below w.heap.size w w from Below.refl _ _)
      have FN : w.heap.size ≤ w.heap.size := Nat.le_refl _
      have hS := Sm.alloc w (.cells #[.int .i64 x0.f0.f0, .int .i64 x0.f0.f1, .int .i64 x0.f0.f2, .int .i64 x0.f0.f3, .slice s0_0 x0.f0.f4.length cap0_0, .slice s0_1 x0.f1.length cap0_1] 27)
      have BX0 := Lib.hid (BoxAt.new w #[.int .i64 x0.f0.f0, .int .i64 x0.f0.f1, .int .i64 x0.f0.f2, .int .i64 x0.f0.f3, .slice s0_0 x0.f0.f4.length cap0_0, .slice s0_1 x0.f1.length cap0_1] 27 w.heap.size rfl)
      replace FB := Lib.hid (below_new FB.out FN (.cells #[.int .i64 x0.f0.f0, .int .i64 x0.f0.f1, .int .i64 x0.f0.f2, .int .i64 x0.f0.f3, .slice s0_0 x0.f0.f4.length cap0_0, .slice s0_1 x0.f1.length cap0_1] 27))
      have hq1 : (w.alloc (.cells #[.int .i64 x0.f0.f0, .int .i64 x0.f0.f1, .int .i64 x0.f0.f2, .int .i64 x0.f0.f3, .slice s0_0 x0.f0.f4.length cap0_0, .slice s0_1 x0.f1.length cap0_1] 27)).heap.size = w.heap.size + 1 := by simp
      replace FN : w.heap.size ≤ (w.alloc (.cells #[.int .i64 x0.f0.f0, .int .i64 x0.f0.f1, .int .i64 x0.f0.f2, .int .i64 x0.f0.f3, .slice s0_0 x0.f0.f4.length cap0_0, .slice s0_1 x0.f1.length cap0_1] 27)).heap.size := by omega
      clear hS
      have hS := Sm.alloc (w.alloc (.cells #[.int .i64 x0.f0.f0, .int .i64 x0.f0.f1, .int .i64 x0.f0.f2, .int .i64 x0.f0.f3, .slice s0_0 x0.f0.f4.length cap0_0, .slice s0_1 x0.f1.length cap0_1] 27)) (.cells #[.int .i64 x1.f0.f0, .int .i64 x1.f0.f1, .int .i64 x1.f0.f2, .int .i64 x1.f0.f3, .slice s1_0 x1.f0.f4.length cap1_0, .slice s1_1 x1.f1.length cap1_1] 27)
      replace BX0 := Lib.hid (BX0.out.sm hS (by omega))
      have BX1 := Lib.hid (BoxAt.new (w.alloc (.cells #[.int .i64 x0.f0.f0, .int .i64 x0.f0.f1, .int .i64 x0.f0.f2, .int .i64 x0.f0.f3, .slice s0_0 x0.f0.f4.length cap0_0, .slice s0_1 x0.f1.length cap0_1] 27)) #[.int .i64 x1.f0.f0, .int .i64 x1.f0.f1, .int .i64 x1.f0.f2, .int .i64 x1.f0.f3, .slice s1_0 x1.f0.f4.length cap1_0, .slice s1_1 x1.f1.length cap1_1] 27 (w.heap.size + 1) (by simp))
      replace FB := Lib.hid (below_new FB.out FN (.cells #[.int .i64 x1.f0.f0, .int .i64 x1.f0.f1, .int .i64 x1.f0.f2, .int .i64 x1.f0.f3, .slice s1_0 x1.f0.f4.length cap1_0, .slice s1_1 x1.f1.length cap1_1] 27))
      have hq2 : ((w.alloc (.cells #[.int .i64 x0.f0.f0, .int .i64 x0.f0.f1, .int .i64 x0.f0.f2, .int .i64 x0.f0.f3, .slice s0_0 x0.f0.f4.length cap0_0, .slice s0_1 x0.f1.length cap0_1] 27)).alloc (.cells #[.int .i64 x1.f0.f0, .int .i64 x1.f0.f1, .int .i64 x1.f0.f2, .int .i64 x1.f0.f3, .slice s1_0 x1.f0.f4.length cap1_0, .slice s1_1 x1.f1.length cap1_1] 27)).heap.size = (w.alloc (.cells #[.int .i64 x0.f0.f0, .int .i64 x0.f0.f1, .int .i64 x0.f0.f2, .int .i64 x0.f0.f3, .slice s0_0 x0.f0.f4.length cap0_0, .slice s0_1 x0.f1.length cap0_1] 27)).heap.size + 1 := by simp
      replace FN : w.heap.size ≤ ((w.alloc (.cells #[.int .i64 x0.f0.f0, .int .i64 x0.f0.f1, .int .i64 x0.f0.f2, .int .i64 x0.f0.f3, .slice s0_0 x0.f0.f4.length cap0_0, .slice s0_1 x0.f1.length cap0_1] 27)).alloc (.cells #[.int .i64 x1.f0.f0, .int .i64 x1.f0.f1, .int .i64 x1.f0.f2, .int .i64 x1.f0.f3, .slice s1_0 x1.f0.f4.length cap1_0, .slice s1_1 x1.f1.length cap1_1] 27)).heap.size := by omega
      clear hS
      have xBX00 := BX0.out 0 _ rfl
      have xBX01 := BX0.out 1 _ rfl
      have xBX02 := BX0.out 2 _ rfl
      have xBX03 := BX0.out 3 _ rfl
      have xBX04 := BX0.out 4 _ rfl
      have xBX05 := BX0.out 5 _ rfl
      go_wp2_with fail
      refine (SZ0.out _ FB.out).mono ?_
      rintro e w3_ ⟨rfl, hb3⟩
      clear xBX00 xBX01 xBX02 xBX03 xBX04 xBX05
      have hS := Sm.of_below hb3
      replace BX0 := Lib.hid (BX0.out.sm hS (by omega))
      replace BX1 := Lib.hid (BX1.out.sm hS (by omega))
      replace FB := Lib.hid (below_step FB.out FN hb3)
      have hzw3_ := hb3.size
      replace FN := Nat.le_trans FN hzw3_
      clear hS hb3
      have xBX10 := BX1.out 0 _ rfl
      have xBX11 := BX1.out 1 _ rfl
      have xBX12 := BX1.out 2 _ rfl
      have xBX13 := BX1.out 3 _ rfl
      have xBX14 := BX1.out 4 _ rfl
      have xBX15 := BX1.out 5 _ rfl
      go_wp2_with fail
      refine (SZ1.out _ FB.out).mono ?_
      rintro e w4_ ⟨rfl, hb4⟩
      clear xBX10 xBX11 xBX12 xBX13 xBX14 xBX15
      have hS := Sm.of_below hb4
      replace BX0 := Lib.hid (BX0.out.sm hS (by omega))
      replace BX1 := Lib.hid (BX1.out.sm hS (by omega))
      replace FB := Lib.hid (below_step FB.out FN hb4)
      have hzw4_ := hb4.size
      replace FN := Nat.le_trans FN hzw4_
      clear hS hb4
      have hlBX0 := BX0.out.lt (by simp)
      have hlBX1 := BX1.out.lt (by simp)
      have xBX00 := BX0.out 0 _ rfl
      have xBX01 := BX0.out 1 _ rfl
      have xBX02 := BX0.out 2 _ rfl
      have xBX03 := BX0.out 3 _ rfl
      have xBX04 := BX0.out 4 _ rfl
      have xBX05 := BX0.out 5 _ rfl
      have xBX10 := BX1.out 0 _ rfl
      have xBX11 := BX1.out 1 _ rfl
      have xBX12 := BX1.out 2 _ rfl
      have xBX13 := BX1.out 3 _ rfl
      have xBX14 := BX1.out 4 _ rfl
      have xBX15 := BX1.out 5 _ rfl
      have KS := Lib.hid (fun w' (hb : Below w4_.heap.size w4_ w') => (show (w'.cell? ⟨w.heap.size, 0, none⟩ = some (.int .i64 x0.f0.f0) ∧ w'.cell? ⟨w.heap.size, 1, none⟩ = some (.int .i64 x0.f0.f1) ∧ w'.cell? ⟨w.heap.size, 2, none⟩ = some (.int .i64 x0.f0.f2) ∧ w'.cell? ⟨w.heap.size, 3, none⟩ = some (.int .i64 x0.f0.f3) ∧ w'.cell? ⟨w.heap.size, 4, none⟩ = some (.slice s0_0 x0.f0.f4.length cap0_0) ∧ w'.cell? ⟨w.heap.size, 5, none⟩ = some (.slice s0_1 x0.f1.length cap0_1)) ∧ (w'.cell? ⟨(w.heap.size + 1), 0, none⟩ = some (.int .i64 x1.f0.f0) ∧ w'.cell? ⟨(w.heap.size + 1), 1, none⟩ = some (.int .i64 x1.f0.f1) ∧ w'.cell? ⟨(w.heap.size + 1), 2, none⟩ = some (.int .i64 x1.f0.f2) ∧ w'.cell? ⟨(w.heap.size + 1), 3, none⟩ = some (.int .i64 x1.f0.f3) ∧ w'.cell? ⟨(w.heap.size + 1), 4, none⟩ = some (.slice s1_0 x1.f0.f4.length cap1_0) ∧ w'.cell? ⟨(w.heap.size + 1), 5, none⟩ = some (.slice s1_1 x1.f1.length cap1_1)) from ⟨⟨(BX0.out.below hb hlBX0) 0 _ rfl, (BX0.out.below hb hlBX0) 1 _ rfl, (BX0.out.below hb hlBX0) 2 _ rfl, (BX0.out.below hb hlBX0) 3 _ rfl, (BX0.out.below hb hlBX0) 4 _ rfl, (BX0.out.below hb hlBX0) 5 _ rfl⟩, ⟨(BX1.out.below hb hlBX1) 0 _ rfl, (BX1.out.below hb hlBX1) 1 _ rfl, (BX1.out.below hb hlBX1) 2 _ rfl, (BX1.out.below hb hlBX1) 3 _ rfl, (BX1.out.below hb hlBX1) 4 _ rfl, (BX1.out.below hb hlBX1) 5 _ rfl⟩⟩))
      have hks : (w4_.cell? ⟨w.heap.size, 0, none⟩ = some (.int .i64 x0.f0.f0) ∧ w4_.cell? ⟨w.heap.size, 1, none⟩ = some (.int .i64 x0.f0.f1) ∧ w4_.cell? ⟨w.heap.size, 2, none⟩ = some (.int .i64 x0.f0.f2) ∧ w4_.cell? ⟨w.heap.size, 3, none⟩ = some (.int .i64 x0.f0.f3) ∧ w4_.cell? ⟨w.heap.size, 4, none⟩ = some (.slice s0_0 x0.f0.f4.length cap0_0) ∧ w4_.cell? ⟨w.heap.size, 5, none⟩ = some (.slice s0_1 x0.f1.length cap0_1)) ∧ (w4_.cell? ⟨(w.heap.size + 1), 0, none⟩ = some (.int .i64 x1.f0.f0) ∧ w4_.cell? ⟨(w.heap.size + 1), 1, none⟩ = some (.int .i64 x1.f0.f1) ∧ w4_.cell? ⟨(w.heap.size + 1), 2, none⟩ = some (.int .i64 x1.f0.f2) ∧ w4_.cell? ⟨(w.heap.size + 1), 3, none⟩ = some (.int .i64 x1.f0.f3) ∧ w4_.cell? ⟨(w.heap.size + 1), 4, none⟩ = some (.slice s1_0 x1.f0.f4.length cap1_0) ∧ w4_.cell? ⟨(w.heap.size + 1), 5, none⟩ = some (.slice s1_1 x1.f1.length cap1_1)) := KS.out _ (Below.refl _ _)
      have FBX := Lib.hid (fun w' (hb : Below w4_.heap.size w4_ w') => (show Below w.heap.size w w' from FB.out.trans (hb.mono FN)))
      have HC := Lib.hid (show Below w4_.heap.size w4_ w4_.drew from (Below.refl _ _).drew)
      go_wp2
      go_region_held3 (fun w' => (w'.cell? ⟨w.heap.size, 0, none⟩ = some (.int .i64 x0.f0.f0) ∧ w'.cell? ⟨w.heap.size, 1, none⟩ = some (.int .i64 x0.f0.f1) ∧ w'.cell? ⟨w.heap.size, 2, none⟩ = some (.int .i64 x0.f0.f2) ∧ w'.cell? ⟨w.heap.size, 3, none⟩ = some (.int .i64 x0.f0.f3) ∧ w'.cell? ⟨w.heap.size, 4, none⟩ = some (.slice s0_0 x0.f0.f4.length cap0_0) ∧ w'.cell? ⟨w.heap.size, 5, none⟩ = some (.slice s0_1 x0.f1.length cap0_1)) ∧ (w'.cell? ⟨(w.heap.size + 1), 0, none⟩ = some (.int .i64 x1.f0.f0) ∧ w'.cell? ⟨(w.heap.size + 1), 1, none⟩ = some (.int .i64 x1.f0.f1) ∧ w'.cell? ⟨(w.heap.size + 1), 2, none⟩ = some (.int .i64 x1.f0.f2) ∧ w'.cell? ⟨(w.heap.size + 1), 3, none⟩ = some (.int .i64 x1.f0.f3) ∧ w'.cell? ⟨(w.heap.size + 1), 4, none⟩ = some (.slice s1_0 x1.f0.f4.length cap1_0) ∧ w'.cell? ⟨(w.heap.size + 1), 5, none⟩ = some (.slice s1_1 x1.f1.length cap1_1)))
        (first | (with_reducible exact KS.out _ HC.out) | (with_reducible exact KS.out _ (HC.out.alloc HC.out.size _)) | go_keep)
        (first
          | (go_at_call 15; first | ((with_reducible refine (TO0.out _ (FBX.out _ HC.out)).mono ?_); rintro e wt0 ⟨gt0_0, gt0_1, rfl, hrowt0, hbt0⟩; (try (replace R0 := Lib.hid (R0.out.sm (Sm.of_below hbt0) (by omega)))); (try (replace R1 := Lib.hid (R1.out.sm (Sm.of_below hbt0) (by omega)))); replace HC := Lib.hid (HC.out.trans (hbt0.mono HC.out.size)); have R0 := Lib.hid hrowt0) | ((with_reducible refine (TO1.out _ (FBX.out _ HC.out)).mono ?_); rintro e wt1 ⟨gt1_0, gt1_1, rfl, hrowt1, hbt1⟩; (try (replace R0 := Lib.hid (R0.out.sm (Sm.of_below hbt1) (by omega)))); (try (replace R1 := Lib.hid (R1.out.sm (Sm.of_below hbt1) (by omega)))); replace HC := Lib.hid (HC.out.trans (hbt1.mono HC.out.size)); have R1 := Lib.hid hrowt1))
          | (go_at_call 14; ((with_reducible refine (SP.out _ _ _ _ _ R0.out.sl R1.out.sl).mono ?_); rintro e w5_ ⟨rfl, hb5⟩; have hbf5 := HC.out.size; (try (replace R0 := Lib.hid (R0.out.sm (Sm.of_below hb5) (by omega)))); (try (replace R1 := Lib.hid (R1.out.sm (Sm.of_below hb5) (by omega)))); replace HC := Lib.hid (HC.out.trans (hb5.mono HC.out.size)); skip))
          | fail)
      all_goals
        replace BX0 := Lib.hid (BX0.out.below HC.out hlBX0)
        replace BX1 := Lib.hid (BX1.out.below HC.out hlBX1)
        replace FB := Lib.hid (FBX.out _ HC.out)
        have hzz5 := HC.out.size
        replace FN := Nat.le_trans FN hzz5
        clear hks KS HC FBX hlBX0 hlBX1
        clear hbf5
        clear xBX00 xBX01 xBX02 xBX03 xBX04 xBX05
        clear xBX10 xBX11 xBX12 xBX13 xBX14 xBX15
        clear hrowt0
        clear hbt0
        clear hrowt1
        clear hbt1
        clear R0
        clear R1
        have xBX00 := BX0.out 0 _ rfl
        have xBX01 := BX0.out 1 _ rfl
        have xBX02 := BX0.out 2 _ rfl
        have xBX03 := BX0.out 3 _ rfl
        have xBX04 := BX0.out 4 _ rfl
        have xBX05 := BX0.out 5 _ rfl
        go_wp2_with fail
        refine (TO0.out _ FB.out).mono ?_
        rintro e w6_ ⟨g6_0, g6_1, rfl, hrow6, hb6⟩
        clear xBX00 xBX01 xBX02 xBX03 xBX04 xBX05
        have hS := Sm.of_below hb6
        replace BX0 := Lib.hid (BX0.out.sm hS (by omega))
        replace BX1 := Lib.hid (BX1.out.sm hS (by omega))
        replace FB := Lib.hid (below_step FB.out FN hb6)
        have hzw6_ := hb6.size
        replace FN := Nat.le_trans FN hzw6_
        clear hS hb6
        have X0 := Lib.hid hrow6
        clear hrow6
        have hS := Sm.alloc w6_ (.cells #[.int .i64 x0.f0.f0, .int .i64 x0.f0.f1, .int .i64 x0.f0.f2, .int .i64 x0.f0.f3, .slice (some ⟨g6_0, 0, none⟩) x0.f0.f4.length x0.f0.f4.length, .slice (some ⟨g6_1, 0, none⟩) x0.f1.length x0.f1.length] 34)
        replace BX0 := Lib.hid (BX0.out.sm hS (by omega))
        replace BX1 := Lib.hid (BX1.out.sm hS (by omega))
        replace X0 := Lib.hid (X0.out.sm hS (by omega))
        have CX0 := Lib.hid (BoxAt.new w6_ #[.int .i64 x0.f0.f0, .int .i64 x0.f0.f1, .int .i64 x0.f0.f2, .int .i64 x0.f0.f3, .slice (some ⟨g6_0, 0, none⟩) x0.f0.f4.length x0.f0.f4.length, .slice (some ⟨g6_1, 0, none⟩) x0.f1.length x0.f1.length] 34 w6_.heap.size rfl)
        replace FB := Lib.hid (below_new FB.out FN (.cells #[.int .i64 x0.f0.f0, .int .i64 x0.f0.f1, .int .i64 x0.f0.f2, .int .i64 x0.f0.f3, .slice (some ⟨g6_0, 0, none⟩) x0.f0.f4.length x0.f0.f4.length, .slice (some ⟨g6_1, 0, none⟩) x0.f1.length x0.f1.length] 34))
        have hq7 : (w6_.alloc (.cells #[.int .i64 x0.f0.f0, .int .i64 x0.f0.f1, .int .i64 x0.f0.f2, .int .i64 x0.f0.f3, .slice (some ⟨g6_0, 0, none⟩) x0.f0.f4.length x0.f0.f4.length, .slice (some ⟨g6_1, 0, none⟩) x0.f1.length x0.f1.length] 34)).heap.size = w6_.heap.size + 1 := by simp
        replace FN : w.heap.size ≤ (w6_.alloc (.cells #[.int .i64 x0.f0.f0, .int .i64 x0.f0.f1, .int .i64 x0.f0.f2, .int .i64 x0.f0.f3, .slice (some ⟨g6_0, 0, none⟩) x0.f0.f4.length x0.f0.f4.length, .slice (some ⟨g6_1, 0, none⟩) x0.f1.length x0.f1.length] 34)).heap.size := by omega
        clear hS
        have xBX10 := BX1.out 0 _ rfl
        have xBX11 := BX1.out 1 _ rfl
        have xBX12 := BX1.out 2 _ rfl
        have xBX13 := BX1.out 3 _ rfl
        have xBX14 := BX1.out 4 _ rfl
        have xBX15 := BX1.out 5 _ rfl
        go_wp2_with fail
        refine (TO1.out _ FB.out).mono ?_
        rintro e w8_ ⟨g8_0, g8_1, rfl, hrow8, hb8⟩
        clear xBX10 xBX11 xBX12 xBX13 xBX14 xBX15
        have hS := Sm.of_below hb8
        replace BX0 := Lib.hid (BX0.out.sm hS (by omega))
        replace BX1 := Lib.hid (BX1.out.sm hS (by omega))
        replace X0 := Lib.hid (X0.out.sm hS (by omega))
        replace CX0 := Lib.hid (CX0.out.sm hS (by omega))
        replace FB := Lib.hid (below_step FB.out FN hb8)
        have hzw8_ := hb8.size
        replace FN := Nat.le_trans FN hzw8_
        clear hS hb8
        have X1 := Lib.hid hrow8
        clear hrow8
        have hS := Sm.alloc w8_ (.cells #[.int .i64 x1.f0.f0, .int .i64 x1.f0.f1, .int .i64 x1.f0.f2, .int .i64 x1.f0.f3, .slice (some ⟨g8_0, 0, none⟩) x1.f0.f4.length x1.f0.f4.length, .slice (some ⟨g8_1, 0, none⟩) x1.f1.length x1.f1.length] 34)
        replace BX0 := Lib.hid (BX0.out.sm hS (by omega))
        replace BX1 := Lib.hid (BX1.out.sm hS (by omega))
        replace X0 := Lib.hid (X0.out.sm hS (by omega))
        replace CX0 := Lib.hid (CX0.out.sm hS (by omega))
        replace X1 := Lib.hid (X1.out.sm hS (by omega))
        have CX1 := Lib.hid (BoxAt.new w8_ #[.int .i64 x1.f0.f0, .int .i64 x1.f0.f1, .int .i64 x1.f0.f2, .int .i64 x1.f0.f3, .slice (some ⟨g8_0, 0, none⟩) x1.f0.f4.length x1.f0.f4.length, .slice (some ⟨g8_1, 0, none⟩) x1.f1.length x1.f1.length] 34 w8_.heap.size rfl)
        replace FB := Lib.hid (below_new FB.out FN (.cells #[.int .i64 x1.f0.f0, .int .i64 x1.f0.f1, .int .i64 x1.f0.f2, .int .i64 x1.f0.f3, .slice (some ⟨g8_0, 0, none⟩) x1.f0.f4.length x1.f0.f4.length, .slice (some ⟨g8_1, 0, none⟩) x1.f1.length x1.f1.length] 34))
        have hq9 : (w8_.alloc (.cells #[.int .i64 x1.f0.f0, .int .i64 x1.f0.f1, .int .i64 x1.f0.f2, .int .i64 x1.f0.f3, .slice (some ⟨g8_0, 0, none⟩) x1.f0.f4.length x1.f0.f4.length, .slice (some ⟨g8_1, 0, none⟩) x1.f1.length x1.f1.length] 34)).heap.size = w8_.heap.size + 1 := by simp
        replace FN : w.heap.size ≤ (w8_.alloc (.cells #[.int .i64 x1.f0.f0, .int .i64 x1.f0.f1, .int .i64 x1.f0.f2, .int .i64 x1.f0.f3, .slice (some ⟨g8_0, 0, none⟩) x1.f0.f4.length x1.f0.f4.length, .slice (some ⟨g8_1, 0, none⟩) x1.f1.length x1.f1.length] 34)).heap.size := by omega
        clear hS
        have xCX00 := CX0.out 0 _ rfl
        have xCX01 := CX0.out 1 _ rfl
        have xCX02 := CX0.out 2 _ rfl
        have xCX03 := CX0.out 3 _ rfl
        have xCX04 := CX0.out 4 _ rfl
        have xCX05 := CX0.out 5 _ rfl
        have xCX10 := CX1.out 0 _ rfl
        have xCX11 := CX1.out 1 _ rfl
        have xCX12 := CX1.out 2 _ rfl
        have xCX13 := CX1.out 3 _ rfl
        have xCX14 := CX1.out 4 _ rfl
        have xCX15 := CX1.out 5 _ rfl
        go_wp2_with fail
        refine (IM.out _ _ _ _ _ X0.out.sl X1.out.sl).mono ?_
        rintro e w10_ ⟨rfl, hb10⟩
        clear xCX00 xCX01 xCX02 xCX03 xCX04 xCX05
        clear xCX10 xCX11 xCX12 xCX13 xCX14 xCX15
        have hS := Sm.of_below hb10
        replace BX0 := Lib.hid (BX0.out.sm hS (by omega))
        replace BX1 := Lib.hid (BX1.out.sm hS (by omega))
        replace X0 := Lib.hid (X0.out.sm hS (by omega))
        replace CX0 := Lib.hid (CX0.out.sm hS (by omega))
        replace X1 := Lib.hid (X1.out.sm hS (by omega))
        replace CX1 := Lib.hid (CX1.out.sm hS (by omega))
        replace FB := Lib.hid (below_step FB.out FN hb10)
        have hzw10_ := hb10.size
        replace FN := Nat.le_trans FN hzw10_
        clear hS hb10
        have hlCX0 := CX0.out.lt (by simp)
        have hlBX0 := BX0.out.lt (by simp)
        have xCX00 := CX0.out 0 _ rfl
        have xCX01 := CX0.out 1 _ rfl
        have xCX02 := CX0.out 2 _ rfl
        have xCX03 := CX0.out 3 _ rfl
        have xCX04 := CX0.out 4 _ rfl
        have xCX05 := CX0.out 5 _ rfl
        have xBX00 := BX0.out 0 _ rfl
        have xBX01 := BX0.out 1 _ rfl
        have xBX02 := BX0.out 2 _ rfl
        have xBX03 := BX0.out 3 _ rfl
        have xBX04 := BX0.out 4 _ rfl
        have xBX05 := BX0.out 5 _ rfl
        have KS := Lib.hid (fun w' (hb : Below w10_.heap.size w10_ w') => (show (w'.cell? ⟨w6_.heap.size, 0, none⟩ = some (.int .i64 x0.f0.f0) ∧ w'.cell? ⟨w6_.heap.size, 1, none⟩ = some (.int .i64 x0.f0.f1) ∧ w'.cell? ⟨w6_.heap.size, 2, none⟩ = some (.int .i64 x0.f0.f2) ∧ w'.cell? ⟨w6_.heap.size, 3, none⟩ = some (.int .i64 x0.f0.f3) ∧ w'.cell? ⟨w6_.heap.size, 4, none⟩ = some (.slice (some ⟨g6_0, 0, none⟩) x0.f0.f4.length x0.f0.f4.length) ∧ w'.cell? ⟨w6_.heap.size, 5, none⟩ = some (.slice (some ⟨g6_1, 0, none⟩) x0.f1.length x0.f1.length)) ∧ (w'.cell? ⟨w.heap.size, 0, none⟩ = some (.int .i64 x0.f0.f0) ∧ w'.cell? ⟨w.heap.size, 1, none⟩ = some (.int .i64 x0.f0.f1) ∧ w'.cell? ⟨w.heap.size, 2, none⟩ = some (.int .i64 x0.f0.f2) ∧ w'.cell? ⟨w.heap.size, 3, none⟩ = some (.int .i64 x0.f0.f3) ∧ w'.cell? ⟨w.heap.size, 4, none⟩ = some (.slice s0_0 x0.f0.f4.length cap0_0) ∧ w'.cell? ⟨w.heap.size, 5, none⟩ = some (.slice s0_1 x0.f1.length cap0_1)) from ⟨⟨(CX0.out.below hb hlCX0) 0 _ rfl, (CX0.out.below hb hlCX0) 1 _ rfl, (CX0.out.below hb hlCX0) 2 _ rfl, (CX0.out.below hb hlCX0) 3 _ rfl, (CX0.out.below hb hlCX0) 4 _ rfl, (CX0.out.below hb hlCX0) 5 _ rfl⟩, ⟨(BX0.out.below hb hlBX0) 0 _ rfl, (BX0.out.below hb hlBX0) 1 _ rfl, (BX0.out.below hb hlBX0) 2 _ rfl, (BX0.out.below hb hlBX0) 3 _ rfl, (BX0.out.below hb hlBX0) 4 _ rfl, (BX0.out.below hb hlBX0) 5 _ rfl⟩⟩))
        have hks : (w10_.cell? ⟨w6_.heap.size, 0, none⟩ = some (.int .i64 x0.f0.f0) ∧ w10_.cell? ⟨w6_.heap.size, 1, none⟩ = some (.int .i64 x0.f0.f1) ∧ w10_.cell? ⟨w6_.heap.size, 2, none⟩ = some (.int .i64 x0.f0.f2) ∧ w10_.cell? ⟨w6_.heap.size, 3, none⟩ = some (.int .i64 x0.f0.f3) ∧ w10_.cell? ⟨w6_.heap.size, 4, none⟩ = some (.slice (some ⟨g6_0, 0, none⟩) x0.f0.f4.length x0.f0.f4.length) ∧ w10_.cell? ⟨w6_.heap.size, 5, none⟩ = some (.slice (some ⟨g6_1, 0, none⟩) x0.f1.length x0.f1.length)) ∧ (w10_.cell? ⟨w.heap.size, 0, none⟩ = some (.int .i64 x0.f0.f0) ∧ w10_.cell? ⟨w.heap.size, 1, none⟩ = some (.int .i64 x0.f0.f1) ∧ w10_.cell? ⟨w.heap.size, 2, none⟩ = some (.int .i64 x0.f0.f2) ∧ w10_.cell? ⟨w.heap.size, 3, none⟩ = some (.int .i64 x0.f0.f3) ∧ w10_.cell? ⟨w.heap.size, 4, none⟩ = some (.slice s0_0 x0.f0.f4.length cap0_0) ∧ w10_.cell? ⟨w.heap.size, 5, none⟩ = some (.slice s0_1 x0.f1.length cap0_1)) := KS.out _ (Below.refl _ _)
        have FBX := Lib.hid (fun w' (hb : Below w10_.heap.size w10_ w') => (show Below w.heap.size w w' from FB.out.trans (hb.mono FN)))
        have HC := Lib.hid (show Below w10_.heap.size w10_ w10_.drew from (Below.refl _ _).drew)
        replace X0 := Lib.hid X0.out.drew
        replace X1 := Lib.hid X1.out.drew
        go_wp2
        go_region_held3 (fun w' => (w'.cell? ⟨w6_.heap.size, 0, none⟩ = some (.int .i64 x0.f0.f0) ∧ w'.cell? ⟨w6_.heap.size, 1, none⟩ = some (.int .i64 x0.f0.f1) ∧ w'.cell? ⟨w6_.heap.size, 2, none⟩ = some (.int .i64 x0.f0.f2) ∧ w'.cell? ⟨w6_.heap.size, 3, none⟩ = some (.int .i64 x0.f0.f3) ∧ w'.cell? ⟨w6_.heap.size, 4, none⟩ = some (.slice (some ⟨g6_0, 0, none⟩) x0.f0.f4.length x0.f0.f4.length) ∧ w'.cell? ⟨w6_.heap.size, 5, none⟩ = some (.slice (some ⟨g6_1, 0, none⟩) x0.f1.length x0.f1.length)) ∧ (w'.cell? ⟨w.heap.size, 0, none⟩ = some (.int .i64 x0.f0.f0) ∧ w'.cell? ⟨w.heap.size, 1, none⟩ = some (.int .i64 x0.f0.f1) ∧ w'.cell? ⟨w.heap.size, 2, none⟩ = some (.int .i64 x0.f0.f2) ∧ w'.cell? ⟨w.heap.size, 3, none⟩ = some (.int .i64 x0.f0.f3) ∧ w'.cell? ⟨w.heap.size, 4, none⟩ = some (.slice s0_0 x0.f0.f4.length cap0_0) ∧ w'.cell? ⟨w.heap.size, 5, none⟩ = some (.slice s0_1 x0.f1.length cap0_1)))
          (first | (with_reducible exact KS.out _ HC.out) | (with_reducible exact KS.out _ (HC.out.alloc HC.out.size _)) | go_keep)
          (first
            | (go_at_call 15; ((with_reducible refine (TO0.out _ (FBX.out _ HC.out)).mono ?_); rintro e wt0 ⟨gt0_0, gt0_1, rfl, hrowt0, hbt0⟩; (try (replace X0 := Lib.hid (X0.out.sm (Sm.of_below hbt0) (by omega)))); (try (replace X1 := Lib.hid (X1.out.sm (Sm.of_below hbt0) (by omega)))); (try (replace Y0 := Lib.hid (Y0.out.sm (Sm.of_below hbt0) (by omega)))); replace HC := Lib.hid (HC.out.trans (hbt0.mono HC.out.size)); have Y0 := Lib.hid hrowt0))
            | (go_at_call 17; ((with_reducible refine (EX0.out _ _ _ _ _ _ _ _ _ X0.out.sl Y0.out.sl).mono ?_); rintro e w11_ ⟨rfl, hb11⟩; have hbf11 := HC.out.size; (try (replace X0 := Lib.hid (X0.out.sm (Sm.of_below hb11) (by omega)))); (try (replace X1 := Lib.hid (X1.out.sm (Sm.of_below hb11) (by omega)))); (try (replace Y0 := Lib.hid (Y0.out.sm (Sm.of_below hb11) (by omega)))); replace HC := Lib.hid (HC.out.trans (hb11.mono HC.out.size)); skip))
            | fail)
        all_goals
          replace CX0 := Lib.hid (CX0.out.below HC.out hlCX0)
          replace BX0 := Lib.hid (BX0.out.below HC.out hlBX0)
          replace BX1 := Lib.hid (BX1.out.sm (Sm.of_below HC.out) (by omega))
          replace CX1 := Lib.hid (CX1.out.sm (Sm.of_below HC.out) (by omega))
          replace FB := Lib.hid (FBX.out _ HC.out)
          have hzz11 := HC.out.size
          replace FN := Nat.le_trans FN hzz11
          clear hks KS HC FBX hlCX0 hlBX0
          clear hbf11
          clear xCX00 xCX01 xCX02 xCX03 xCX04 xCX05
          clear xBX00 xBX01 xBX02 xBX03 xBX04 xBX05
          clear hrowt0
          clear hbt0
          clear Y0
          have hlCX1 := CX1.out.lt (by simp)
          have hlBX1 := BX1.out.lt (by simp)
          have xCX10 := CX1.out 0 _ rfl
          have xCX11 := CX1.out 1 _ rfl
          have xCX12 := CX1.out 2 _ rfl
          have xCX13 := CX1.out 3 _ rfl
          have xCX14 := CX1.out 4 _ rfl
          have xCX15 := CX1.out 5 _ rfl
          have xBX10 := BX1.out 0 _ rfl
          have xBX11 := BX1.out 1 _ rfl
          have xBX12 := BX1.out 2 _ rfl
          have xBX13 := BX1.out 3 _ rfl
          have xBX14 := BX1.out 4 _ rfl
          have xBX15 := BX1.out 5 _ rfl
          have KS := Lib.hid (fun w' (hb : Below w11_.heap.size w11_ w') => (show (w'.cell? ⟨w8_.heap.size, 0, none⟩ = some (.int .i64 x1.f0.f0) ∧ w'.cell? ⟨w8_.heap.size, 1, none⟩ = some (.int .i64 x1.f0.f1) ∧ w'.cell? ⟨w8_.heap.size, 2, none⟩ = some (.int .i64 x1.f0.f2) ∧ w'.cell? ⟨w8_.heap.size, 3, none⟩ = some (.int .i64 x1.f0.f3) ∧ w'.cell? ⟨w8_.heap.size, 4, none⟩ = some (.slice (some ⟨g8_0, 0, none⟩) x1.f0.f4.length x1.f0.f4.length) ∧ w'.cell? ⟨w8_.heap.size, 5, none⟩ = some (.slice (some ⟨g8_1, 0, none⟩) x1.f1.length x1.f1.length)) ∧ (w'.cell? ⟨(w.heap.size + 1), 0, none⟩ = some (.int .i64 x1.f0.f0) ∧ w'.cell? ⟨(w.heap.size + 1), 1, none⟩ = some (.int .i64 x1.f0.f1) ∧ w'.cell? ⟨(w.heap.size + 1), 2, none⟩ = some (.int .i64 x1.f0.f2) ∧ w'.cell? ⟨(w.heap.size + 1), 3, none⟩ = some (.int .i64 x1.f0.f3) ∧ w'.cell? ⟨(w.heap.size + 1), 4, none⟩ = some (.slice s1_0 x1.f0.f4.length cap1_0) ∧ w'.cell? ⟨(w.heap.size + 1), 5, none⟩ = some (.slice s1_1 x1.f1.length cap1_1)) from ⟨⟨(CX1.out.below hb hlCX1) 0 _ rfl, (CX1.out.below hb hlCX1) 1 _ rfl, (CX1.out.below hb hlCX1) 2 _ rfl, (CX1.out.below hb hlCX1) 3 _ rfl, (CX1.out.below hb hlCX1) 4 _ rfl, (CX1.out.below hb hlCX1) 5 _ rfl⟩, ⟨(BX1.out.below hb hlBX1) 0 _ rfl, (BX1.out.below hb hlBX1) 1 _ rfl, (BX1.out.below hb hlBX1) 2 _ rfl, (BX1.out.below hb hlBX1) 3 _ rfl, (BX1.out.below hb hlBX1) 4 _ rfl, (BX1.out.below hb hlBX1) 5 _ rfl⟩⟩))
          have hks : (w11_.cell? ⟨w8_.heap.size, 0, none⟩ = some (.int .i64 x1.f0.f0) ∧ w11_.cell? ⟨w8_.heap.size, 1, none⟩ = some (.int .i64 x1.f0.f1) ∧ w11_.cell? ⟨w8_.heap.size, 2, none⟩ = some (.int .i64 x1.f0.f2) ∧ w11_.cell? ⟨w8_.heap.size, 3, none⟩ = some (.int .i64 x1.f0.f3) ∧ w11_.cell? ⟨w8_.heap.size, 4, none⟩ = some (.slice (some ⟨g8_0, 0, none⟩) x1.f0.f4.length x1.f0.f4.length) ∧ w11_.cell? ⟨w8_.heap.size, 5, none⟩ = some (.slice (some ⟨g8_1, 0, none⟩) x1.f1.length x1.f1.length)) ∧ (w11_.cell? ⟨(w.heap.size + 1), 0, none⟩ = some (.int .i64 x1.f0.f0) ∧ w11_.cell? ⟨(w.heap.size + 1), 1, none⟩ = some (.int .i64 x1.f0.f1) ∧ w11_.cell? ⟨(w.heap.size + 1), 2, none⟩ = some (.int .i64 x1.f0.f2) ∧ w11_.cell? ⟨(w.heap.size + 1), 3, none⟩ = some (.int .i64 x1.f0.f3) ∧ w11_.cell? ⟨(w.heap.size + 1), 4, none⟩ = some (.slice s1_0 x1.f0.f4.length cap1_0) ∧ w11_.cell? ⟨(w.heap.size + 1), 5, none⟩ = some (.slice s1_1 x1.f1.length cap1_1)) := KS.out _ (Below.refl _ _)
          have FBX := Lib.hid (fun w' (hb : Below w11_.heap.size w11_ w') => (show Below w.heap.size w w' from FB.out.trans (hb.mono FN)))
          have HC := Lib.hid (show Below w11_.heap.size w11_ w11_.drew from (Below.refl _ _).drew)
          replace X0 := Lib.hid X0.out.drew
          replace X1 := Lib.hid X1.out.drew
          go_wp2
          go_region_held3 (fun w' => (w'.cell? ⟨w8_.heap.size, 0, none⟩ = some (.int .i64 x1.f0.f0) ∧ w'.cell? ⟨w8_.heap.size, 1, none⟩ = some (.int .i64 x1.f0.f1) ∧ w'.cell? ⟨w8_.heap.size, 2, none⟩ = some (.int .i64 x1.f0.f2) ∧ w'.cell? ⟨w8_.heap.size, 3, none⟩ = some (.int .i64 x1.f0.f3) ∧ w'.cell? ⟨w8_.heap.size, 4, none⟩ = some (.slice (some ⟨g8_0, 0, none⟩) x1.f0.f4.length x1.f0.f4.length) ∧ w'.cell? ⟨w8_.heap.size, 5, none⟩ = some (.slice (some ⟨g8_1, 0, none⟩) x1.f1.length x1.f1.length)) ∧ (w'.cell? ⟨(w.heap.size + 1), 0, none⟩ = some (.int .i64 x1.f0.f0) ∧ w'.cell? ⟨(w.heap.size + 1), 1, none⟩ = some (.int .i64 x1.f0.f1) ∧ w'.cell? ⟨(w.heap.size + 1), 2, none⟩ = some (.int .i64 x1.f0.f2) ∧ w'.cell? ⟨(w.heap.size + 1), 3, none⟩ = some (.int .i64 x1.f0.f3) ∧ w'.cell? ⟨(w.heap.size + 1), 4, none⟩ = some (.slice s1_0 x1.f0.f4.length cap1_0) ∧ w'.cell? ⟨(w.heap.size + 1), 5, none⟩ = some (.slice s1_1 x1.f1.length cap1_1)))
            (first | (with_reducible exact KS.out _ HC.out) | (with_reducible exact KS.out _ (HC.out.alloc HC.out.size _)) | go_keep)
            (first
              | (go_at_call 15; ((with_reducible refine (TO1.out _ (FBX.out _ HC.out)).mono ?_); rintro e wt1 ⟨gt1_0, gt1_1, rfl, hrowt1, hbt1⟩; (try (replace X0 := Lib.hid (X0.out.sm (Sm.of_below hbt1) (by omega)))); (try (replace X1 := Lib.hid (X1.out.sm (Sm.of_below hbt1) (by omega)))); (try (replace Y1 := Lib.hid (Y1.out.sm (Sm.of_below hbt1) (by omega)))); replace HC := Lib.hid (HC.out.trans (hbt1.mono HC.out.size)); have Y1 := Lib.hid hrowt1))
              | (go_at_call 17; ((with_reducible refine (EX1.out _ _ _ _ _ _ _ _ _ X1.out.sl Y1.out.sl).mono ?_); rintro e w12_ ⟨rfl, hb12⟩; have hbf12 := HC.out.size; (try (replace X0 := Lib.hid (X0.out.sm (Sm.of_below hb12) (by omega)))); (try (replace X1 := Lib.hid (X1.out.sm (Sm.of_below hb12) (by omega)))); (try (replace Y1 := Lib.hid (Y1.out.sm (Sm.of_below hb12) (by omega)))); replace HC := Lib.hid (HC.out.trans (hb12.mono HC.out.size)); skip))
              | fail)
          all_goals
            replace CX1 := Lib.hid (CX1.out.below HC.out hlCX1)
            replace BX1 := Lib.hid (BX1.out.below HC.out hlBX1)
            replace BX0 := Lib.hid (BX0.out.sm (Sm.of_below HC.out) (by omega))
            replace CX0 := Lib.hid (CX0.out.sm (Sm.of_below HC.out) (by omega))
            replace FB := Lib.hid (FBX.out _ HC.out)
            have hzz12 := HC.out.size
            replace FN := Nat.le_trans FN hzz12
            clear hks KS HC FBX hlCX1 hlBX1
            clear hbf12
            clear xCX10 xCX11 xCX12 xCX13 xCX14 xCX15
            clear xBX10 xBX11 xBX12 xBX13 xBX14 xBX15
            clear hrowt1
            clear hbt1
            clear Y1
            go_wp2
            go_ret
            exact ⟨rfl, FB.out⟩
end Go.Proofs.Ytjciihjbeaoolaa.fnExactSameImage
