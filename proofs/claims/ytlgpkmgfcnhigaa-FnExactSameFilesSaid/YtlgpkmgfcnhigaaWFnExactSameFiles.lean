/- FnExactSameFiles: the law's walk. -/
import Derived.Test.YtlgpkmgfcnhigaaSm
import Derived.Test.YtlgpkmgfcnhigaaRecSm
import Derived.Test.YtlgpkmgfcnhigaaBoxes
import Derived.Test.YtlgpkmgfcnhigaaSameFl
import Derived.Test.YtlgpkmgfcnhigaaRecFile
namespace Go.Proofs.Ytlgpkmgfcnhigaa.fnExactSameFiles
open Go.RowKit
set_option linter.unusedVariables false
set_option maxRecDepth 20000 in
set_option maxHeartbeats 8000000 in
theorem walk (s0 : Option Addr) (xs0 : List FileV) (cap0 : Nat) (s1 : Option Addr) (xs1 : List FileV) (cap1 : Nat) (w : World) (w0 : RecArg rowFile w s0 xs0) (v0 : ∀ e ∈ xs0, e.f0.size ≤ maxLen ∧ e.f1.size ≤ maxLen) (w1 : RecArg rowFile w s1 xs1) (v1 : ∀ e ∈ xs1, e.f0.size ≤ maxLen ∧ e.f1.size ≤ maxLen) :
    Calls Try.prog 3 #[.slice s0 xs0.length cap0, .slice s1 xs1.length cap1] w fun e w' => e = .returned (.bool true) ∧ Below w.heap.size w w' := by
  obtain ⟨hm0, hsl0⟩ := w0
  obtain ⟨hm1, hsl1⟩ := w1
  by_cases hk0 : wtFile xs0 ≤ 1048576
  case neg =>
    have SN0 := Lib.hid (fun w' (hb : Below w.heap.size w w') => (szFileS_any s0 xs0 cap0 1048576 w' (by omega) hm0 v0 (hsl0.below hb (Nat.le_refl _))).mono (fun e w'' ⟨he, hw⟩ => (show e = Ending.returned (.int .i64 (-1)) ∧ Below w'.heap.size w' w'' from ⟨by rw [he]; unfold szV; rw [if_neg hk0], hw⟩)))
    clear hsl0 hsl1
    go_enter Try.func3, Try.ntmps3
    have FB := Lib.hid (show Below w.heap.size w w from Below.refl _ _)
    have FN : w.heap.size ≤ w.heap.size := Nat.le_refl _
    go_wp2_with fail
    refine (SN0.out _ FB.out).mono ?_
    rintro e w1_ ⟨rfl, hb1⟩
    have hS := Sm.of_below hb1
    replace FB := Lib.hid (below_step FB.out FN hb1)
    have hzw1_ := hb1.size
    replace FN := Nat.le_trans FN hzw1_
    clear hS hb1
    go_wp2
    go_ret
    exact ⟨rfl, FB.out⟩
  case pos =>
    have sz0 := fun w' (hb : Below w.heap.size w w') => (szFileS_any s0 xs0 cap0 1048576 w' (by omega) hm0 v0 (hsl0.below hb (Nat.le_refl _))).mono (fun e w'' ⟨he, hw⟩ => (show e = Ending.returned (.int .i64 ((1048576 - wtFile xs0 : Nat) : Int)) ∧ Below w'.heap.size w' w'' from ⟨by rw [he]; unfold szV; rw [if_pos hk0], hw⟩))
    obtain ⟨lf0, hlf0⟩ : ∃ m, 1048576 - wtFile xs0 = m := ⟨_, rfl⟩
    rw [hlf0] at sz0
    have hlfb0 : ¬ ((lf0 : Int) < 0) := by omega
    have hlfc0 : lf0 ≤ 1048576 := by omega
    have SZ0 := Lib.hid sz0; clear sz0
    by_cases hk1 : wtFile xs1 ≤ lf0
    case neg =>
      have SN1 := Lib.hid (fun w' (hb : Below w.heap.size w w') => (szFileS_any s1 xs1 cap1 lf0 w' (by omega) hm1 v1 (hsl1.below hb (Nat.le_refl _))).mono (fun e w'' ⟨he, hw⟩ => (show e = Ending.returned (.int .i64 (-1)) ∧ Below w'.heap.size w' w'' from ⟨by rw [he]; unfold szV; rw [if_neg hk1], hw⟩)))
      clear hsl0 hsl1
      go_enter Try.func3, Try.ntmps3
      have FB := Lib.hid (show Below w.heap.size w w from Below.refl _ _)
      have FN : w.heap.size ≤ w.heap.size := Nat.le_refl _
      go_wp2_with fail
      refine (SZ0.out _ FB.out).mono ?_
      rintro e w1_ ⟨rfl, hb1⟩
      have hS := Sm.of_below hb1
      replace FB := Lib.hid (below_step FB.out FN hb1)
      have hzw1_ := hb1.size
      replace FN := Nat.le_trans FN hzw1_
      clear hS hb1
      go_wp2_with fail
      refine (SN1.out _ FB.out).mono ?_
      rintro e w2_ ⟨rfl, hb2⟩
      have hS := Sm.of_below hb2
      replace FB := Lib.hid (below_step FB.out FN hb2)
      have hzw2_ := hb2.size
      replace FN := Nat.le_trans FN hzw2_
      clear hS hb2
      go_wp2
      go_ret
      exact ⟨rfl, FB.out⟩
    case pos =>
      have sz1 := fun w' (hb : Below w.heap.size w w') => (szFileS_any s1 xs1 cap1 lf0 w' (by omega) hm1 v1 (hsl1.below hb (Nat.le_refl _))).mono (fun e w'' ⟨he, hw⟩ => (show e = Ending.returned (.int .i64 ((lf0 - wtFile xs1 : Nat) : Int)) ∧ Below w'.heap.size w' w'' from ⟨by rw [he]; unfold szV; rw [if_pos hk1], hw⟩))
      obtain ⟨lf1, hlf1⟩ : ∃ m, lf0 - wtFile xs1 = m := ⟨_, rfl⟩
      rw [hlf1] at sz1
      have hlfb1 : ¬ ((lf1 : Int) < 0) := by omega
      have hlfc1 : lf1 ≤ 1048576 := by omega
      have SZ1 := Lib.hid sz1; clear sz1
      have hn0 : xs0.length ≤ 1048576 := by have := wtFile_len xs0; omega
      have hv0 : ∀ e ∈ xs0, e.f0.size ≤ 1048576 ∧ e.f1.size ≤ 1048576 := fun e he => by have := wtFile_at (Nat.le_refl _) e he; omega
      have hn1 : xs1.length ≤ 1048576 := by have := wtFile_len xs1; omega
      have hv1 : ∀ e ∈ xs1, e.f0.size ≤ 1048576 ∧ e.f1.size ≤ 1048576 := fun e he => by have := wtFile_at (Nat.le_refl _) e he; omega
      have TO0 := Lib.hid (fun w' (hb : Below w.heap.size w w') => toFileS_any s0 xs0 cap0 w' hn0 (hsl0.below hb (Nat.le_refl _)))
      have EX0 := Lib.hid (fun x d y d' w' (h1 : SlS rowFile w' x xs0) (h2 : SlS rowFile w' y xs0) => eqFileS_any true x y xs0 xs0 d d' w' (by simp) (by omega) (by omega) h1 h2)
      have TO1 := Lib.hid (fun w' (hb : Below w.heap.size w w') => toFileS_any s1 xs1 cap1 w' hn1 (hsl1.below hb (Nat.le_refl _)))
      have EX1 := Lib.hid (fun x d y d' w' (h1 : SlS rowFile w' x xs1) (h2 : SlS rowFile w' y xs1) => eqFileS_any true x y xs1 xs1 d d' w' (by simp) (by omega) (by omega) h1 h2)
      have hsp := fun g0 g1 w' (h0 : SlS rowFile w' (some ⟨g0, 0, none⟩) xs0) (h1 : SlS rowFile w' (some ⟨g1, 0, none⟩) xs1) => specSameFiles_g (some ⟨g0, 0, none⟩) xs0.length xs0 (some ⟨g1, 0, none⟩) xs1.length xs1 hn0 hv0 hn1 hv1 w' h0 h1
      have him := fun g0 g1 w' (h0 : SlS rowFile w' (some ⟨g0, 0, none⟩) xs0) (h1 : SlS rowFile w' (some ⟨g1, 0, none⟩) xs1) => sameFiles_g (some ⟨g0, 0, none⟩) xs0.length xs0 (some ⟨g1, 0, none⟩) xs1.length xs1 hn0 hv0 hn1 hv1 w' h0 h1
      generalize sameFileS xs0 xs1 = r0 at hsp him
      have hvq0 : (r0 != r0) = false := by simp
      have SP := Lib.hid hsp; have IM := Lib.hid him; clear hsp him hsl0 hsl1
      go_enter Try.func3, Try.ntmps3
      have FB := Lib.hid (show Below w.heap.size w w from Below.refl _ _)
      have FN : w.heap.size ≤ w.heap.size := Nat.le_refl _
      go_wp2_with fail
      refine (SZ0.out _ FB.out).mono ?_
      rintro e w1_ ⟨rfl, hb1⟩
      have hS := Sm.of_below hb1
      replace FB := Lib.hid (below_step FB.out FN hb1)
      have hzw1_ := hb1.size
      replace FN := Nat.le_trans FN hzw1_
      clear hS hb1
      go_wp2_with fail
      refine (SZ1.out _ FB.out).mono ?_
      rintro e w2_ ⟨rfl, hb2⟩
      have hS := Sm.of_below hb2
      replace FB := Lib.hid (below_step FB.out FN hb2)
      have hzw2_ := hb2.size
      replace FN := Nat.le_trans FN hzw2_
      clear hS hb2
      go_wp2_with fail
      refine (TO0.out _ FB.out).mono ?_
      rintro e w3_ ⟨g3, rfl, hrow3, hg3, hb3⟩
      have hS := Sm.of_below hb3
      replace FB := Lib.hid (below_step FB.out FN hb3)
      have hzw3_ := hb3.size
      replace FN := Nat.le_trans FN hzw3_
      clear hS hb3
      have R0 := Lib.hid (hrow3.sli hg3)
      clear hrow3 hg3
      go_wp2_with fail
      refine (TO1.out _ FB.out).mono ?_
      rintro e w4_ ⟨g4, rfl, hrow4, hg4, hb4⟩
      have hS := Sm.of_below hb4
      replace R0 := Lib.hid (R0.out.sm hS (by omega))
      replace FB := Lib.hid (below_step FB.out FN hb4)
      have hzw4_ := hb4.size
      replace FN := Nat.le_trans FN hzw4_
      clear hS hb4
      have R1 := Lib.hid (hrow4.sli hg4)
      clear hrow4 hg4
      go_wp2_with fail
      refine (SP.out _ _ _ R0.out.sl R1.out.sl).mono ?_
      rintro e w5_ ⟨rfl, hb5⟩
      have hS := Sm.of_below hb5
      replace R0 := Lib.hid (R0.out.sm hS (by omega))
      replace R1 := Lib.hid (R1.out.sm hS (by omega))
      replace FB := Lib.hid (below_step FB.out FN hb5)
      have hzw5_ := hb5.size
      replace FN := Nat.le_trans FN hzw5_
      clear hS hb5
      clear R0
      clear R1
      go_wp2_with fail
      refine (TO0.out _ FB.out).mono ?_
      rintro e w6_ ⟨g6, rfl, hrow6, hg6, hb6⟩
      have hS := Sm.of_below hb6
      replace FB := Lib.hid (below_step FB.out FN hb6)
      have hzw6_ := hb6.size
      replace FN := Nat.le_trans FN hzw6_
      clear hS hb6
      have X0 := Lib.hid (hrow6.sli hg6)
      clear hrow6 hg6
      go_wp2_with fail
      refine (TO1.out _ FB.out).mono ?_
      rintro e w7_ ⟨g7, rfl, hrow7, hg7, hb7⟩
      have hS := Sm.of_below hb7
      replace X0 := Lib.hid (X0.out.sm hS (by omega))
      replace FB := Lib.hid (below_step FB.out FN hb7)
      have hzw7_ := hb7.size
      replace FN := Nat.le_trans FN hzw7_
      clear hS hb7
      have X1 := Lib.hid (hrow7.sli hg7)
      clear hrow7 hg7
      go_wp2_with fail
      refine (IM.out _ _ _ X0.out.sl X1.out.sl).mono ?_
      rintro e w8_ ⟨rfl, hb8⟩
      have hS := Sm.of_below hb8
      replace X0 := Lib.hid (X0.out.sm hS (by omega))
      replace X1 := Lib.hid (X1.out.sm hS (by omega))
      replace FB := Lib.hid (below_step FB.out FN hb8)
      have hzw8_ := hb8.size
      replace FN := Nat.le_trans FN hzw8_
      clear hS hb8
      go_wp2_with fail
      refine (TO0.out _ FB.out).mono ?_
      rintro e w9_ ⟨g9, rfl, hrow9, hg9, hb9⟩
      have hS := Sm.of_below hb9
      replace X0 := Lib.hid (X0.out.sm hS (by omega))
      replace X1 := Lib.hid (X1.out.sm hS (by omega))
      replace FB := Lib.hid (below_step FB.out FN hb9)
      have hzw9_ := hb9.size
      replace FN := Nat.le_trans FN hzw9_
      clear hS hb9
      have Y0 := Lib.hid (hrow9.sli hg9)
      clear hrow9 hg9
      go_wp2_with fail
      refine (EX0.out _ _ _ _ _ X0.out.sl Y0.out.sl).mono ?_
      rintro e w10_ ⟨rfl, hb10⟩
      have hS := Sm.of_below hb10
      replace X0 := Lib.hid (X0.out.sm hS (by omega))
      replace X1 := Lib.hid (X1.out.sm hS (by omega))
      replace Y0 := Lib.hid (Y0.out.sm hS (by omega))
      replace FB := Lib.hid (below_step FB.out FN hb10)
      have hzw10_ := hb10.size
      replace FN := Nat.le_trans FN hzw10_
      clear hS hb10
      clear Y0
      go_wp2_with fail
      refine (TO1.out _ FB.out).mono ?_
      rintro e w11_ ⟨g11, rfl, hrow11, hg11, hb11⟩
      have hS := Sm.of_below hb11
      replace X0 := Lib.hid (X0.out.sm hS (by omega))
      replace X1 := Lib.hid (X1.out.sm hS (by omega))
      replace FB := Lib.hid (below_step FB.out FN hb11)
      have hzw11_ := hb11.size
      replace FN := Nat.le_trans FN hzw11_
      clear hS hb11
      have Y1 := Lib.hid (hrow11.sli hg11)
      clear hrow11 hg11
      go_wp2_with fail
      refine (EX1.out _ _ _ _ _ X1.out.sl Y1.out.sl).mono ?_
      rintro e w12_ ⟨rfl, hb12⟩
      have hS := Sm.of_below hb12
      replace X0 := Lib.hid (X0.out.sm hS (by omega))
      replace X1 := Lib.hid (X1.out.sm hS (by omega))
      replace Y1 := Lib.hid (Y1.out.sm hS (by omega))
      replace FB := Lib.hid (below_step FB.out FN hb12)
      have hzw12_ := hb12.size
      replace FN := Nat.le_trans FN hzw12_
      clear hS hb12
      clear Y1
      go_wp2
      go_ret
      exact ⟨rfl, FB.out⟩
end Go.Proofs.Ytlgpkmgfcnhigaa.fnExactSameFiles
