/- FnExactDataMarkOf: the law's walk. -/
import Derived.Test.YtidedgcmpkahgaaSm
import Derived.Test.YtidedgcmpkahgaaRecSm
import Derived.Test.YtidedgcmpkahgaaBoxes
import Derived.Test.YtidedgcmpkahgaaDataMkIm
import Derived.Test.YtidedgcmpkahgaaDataMkSp
import Derived.Test.YtidedgcmpkahgaaRecMark
namespace Go.Proofs.Ytidedgcmpkahgaa.fnExactDataMarkOf
open Go.RowKit
set_option linter.unusedVariables false
set_option maxRecDepth 20000 in
set_option maxHeartbeats 8000000 in
theorem walk (a0 : ByteArray) (a1 : Int) (s2 : Option Addr) (xs2 : List MarkV) (cap2 : Nat) (a3 : Int) (w : World) (w0 : a0.size ≤ maxLen) (w1 : (Lit.int .i64 a1).wf = true) (w2 : RecArg rowMark w s2 xs2) (w3 : (Lit.int .i64 a3).wf = true) :
    Calls Try.prog 3 #[.string a0, .int .i64 a1, .slice s2 xs2.length cap2, .int .i64 a3] w fun e w' => e = .returned (.bool true) ∧ Below w.heap.size w w' := by
  obtain ⟨hm2, hsl2⟩ := w2
  by_cases hk0 : a0.size ≤ 1048576
  case neg =>
    have hk' : 1048576 < a0.size := by omega
    clear hsl2
    go_enter Try.func3, Try.ntmps3
    go_wp2
    go_ret
    exact ⟨rfl, by go_grown⟩
  case pos =>
    by_cases hk2 : wtMark xs2 ≤ 1048576
    case neg =>
      have SN2 := Lib.hid (fun w' (hb : Below w.heap.size w w') => (szMarkS_any s2 xs2 cap2 1048576 w' (by omega) hm2 (hsl2.below hb (Nat.le_refl _))).mono (fun e w'' ⟨he, hw⟩ => (show e = Ending.returned (.int .i64 (-1)) ∧ Below w'.heap.size w' w'' from ⟨by rw [he]; unfold szV; rw [if_neg hk2], hw⟩)))
      clear hsl2
      go_enter Try.func3, Try.ntmps3
      have FB := Lib.hid (show Below w.heap.size w w from Below.refl _ _)
      have FN : w.heap.size ≤ w.heap.size := Nat.le_refl _
      go_wp2_with fail
      refine (SN2.out _ FB.out).mono ?_
      rintro e w1_ ⟨rfl, hb1⟩
      have hS := Sm.of_below hb1
      replace FB := Lib.hid (below_step FB.out FN hb1)
      have hzw1_ := hb1.size
      replace FN := Nat.le_trans FN hzw1_
      clear hS hb1
      go_wp2
      go_ret
      exact ⟨rfl, FB.out⟩
    case pos =>
      have sz2 := fun w' (hb : Below w.heap.size w w') => (szMarkS_any s2 xs2 cap2 1048576 w' (by omega) hm2 (hsl2.below hb (Nat.le_refl _))).mono (fun e w'' ⟨he, hw⟩ => (show e = Ending.returned (.int .i64 ((1048576 - wtMark xs2 : Nat) : Int)) ∧ Below w'.heap.size w' w'' from ⟨by rw [he]; unfold szV; rw [if_pos hk2], hw⟩))
      obtain ⟨lf2, hlf2⟩ : ∃ m, 1048576 - wtMark xs2 = m := ⟨_, rfl⟩
      rw [hlf2] at sz2
      have hlfb2 : ¬ ((lf2 : Int) < 0) := by omega
      have hlfc2 : lf2 ≤ 1048576 := by omega
      have SZ2 := Lib.hid sz2; clear sz2
      have hn0 : a0.size ≤ 1048576 := by omega
      have hn2 : xs2.length ≤ 1048576 := by have := wtMark_len xs2; omega
      have TO2 := Lib.hid (fun w' (hb : Below w.heap.size w w') => toMarkS_any s2 xs2 cap2 w' hn2 (hsl2.below hb (Nat.le_refl _)))
      have EX2 := Lib.hid (fun x d y d' w' (h1 : SlS rowMark w' x xs2) (h2 : SlS rowMark w' y xs2) => eqMarkS_any true x y xs2 xs2 d d' w' (by simp) (by omega) (by omega) h1 h2)
      have hsp := fun g2 w' (h2 : SlS rowMark w' (some ⟨g2, 0, none⟩) xs2) => specDataMarkOf_g a0 a1 (some ⟨g2, 0, none⟩) xs2.length xs2 a3 hn0 hn2 w' h2
      have him := fun g2 w' (h2 : SlS rowMark w' (some ⟨g2, 0, none⟩) xs2) => dataMarkOf_g a0 a1 (some ⟨g2, 0, none⟩) xs2.length xs2 a3 hn0 hn2 w' h2
      generalize dmN a0 a1 xs2 a3 = r0 at hsp him
      have hvq0 : (r0 != r0) = false := by simp
      generalize dmB a0 a1 xs2 a3 = r1 at hsp him
      have hvq1 : (r1 != r1) = false := by simp
      have SP := Lib.hid hsp; have IM := Lib.hid him; clear hsp him hsl2
      go_enter Try.func3, Try.ntmps3
      have FB := Lib.hid (show Below w.heap.size w w from Below.refl _ _)
      have FN : w.heap.size ≤ w.heap.size := Nat.le_refl _
      go_wp2_with fail
      refine (SZ2.out _ FB.out).mono ?_
      rintro e w1_ ⟨rfl, hb1⟩
      have hS := Sm.of_below hb1
      replace FB := Lib.hid (below_step FB.out FN hb1)
      have hzw1_ := hb1.size
      replace FN := Nat.le_trans FN hzw1_
      clear hS hb1
      go_wp2_with fail
      refine (TO2.out _ FB.out).mono ?_
      rintro e w2_ ⟨g2, rfl, hrow2, hg2, hb2⟩
      have hS := Sm.of_below hb2
      replace FB := Lib.hid (below_step FB.out FN hb2)
      have hzw2_ := hb2.size
      replace FN := Nat.le_trans FN hzw2_
      clear hS hb2
      have R2 := Lib.hid (hrow2.sli hg2)
      clear hrow2 hg2
      go_wp2_with fail
      refine (SP.out _ _ R2.out.sl).mono ?_
      rintro e w3_ ⟨rfl, hb3⟩
      have hS := Sm.of_below hb3
      replace R2 := Lib.hid (R2.out.sm hS (by omega))
      replace FB := Lib.hid (below_step FB.out FN hb3)
      have hzw3_ := hb3.size
      replace FN := Nat.le_trans FN hzw3_
      clear hS hb3
      clear R2
      go_wp2_with fail
      refine (TO2.out _ FB.out).mono ?_
      rintro e w4_ ⟨g4, rfl, hrow4, hg4, hb4⟩
      have hS := Sm.of_below hb4
      replace FB := Lib.hid (below_step FB.out FN hb4)
      have hzw4_ := hb4.size
      replace FN := Nat.le_trans FN hzw4_
      clear hS hb4
      have X2 := Lib.hid (hrow4.sli hg4)
      clear hrow4 hg4
      go_wp2_with fail
      refine (IM.out _ _ X2.out.sl).mono ?_
      rintro e w5_ ⟨rfl, hb5⟩
      have hS := Sm.of_below hb5
      replace X2 := Lib.hid (X2.out.sm hS (by omega))
      replace FB := Lib.hid (below_step FB.out FN hb5)
      have hzw5_ := hb5.size
      replace FN := Nat.le_trans FN hzw5_
      clear hS hb5
      go_wp2_with fail
      refine (TO2.out _ FB.out).mono ?_
      rintro e w6_ ⟨g6, rfl, hrow6, hg6, hb6⟩
      have hS := Sm.of_below hb6
      replace X2 := Lib.hid (X2.out.sm hS (by omega))
      replace FB := Lib.hid (below_step FB.out FN hb6)
      have hzw6_ := hb6.size
      replace FN := Nat.le_trans FN hzw6_
      clear hS hb6
      have Y2 := Lib.hid (hrow6.sli hg6)
      clear hrow6 hg6
      go_wp2_with fail
      refine (EX2.out _ _ _ _ _ X2.out.sl Y2.out.sl).mono ?_
      rintro e w7_ ⟨rfl, hb7⟩
      have hS := Sm.of_below hb7
      replace X2 := Lib.hid (X2.out.sm hS (by omega))
      replace Y2 := Lib.hid (Y2.out.sm hS (by omega))
      replace FB := Lib.hid (below_step FB.out FN hb7)
      have hzw7_ := hb7.size
      replace FN := Nat.le_trans FN hzw7_
      clear hS hb7
      clear Y2
      go_wp2
      go_ret
      exact ⟨rfl, FB.out⟩
end Go.Proofs.Ytidedgcmpkahgaa.fnExactDataMarkOf
