/- FnExactFindDamaged: the law's walk. -/
import Derived.Test.YtpgcmgbflcdjiaaSm
import Derived.Test.YtpgcmgbflcdjiaaRecSm
import Derived.Test.YtpgcmgbflcdjiaaBoxes
import Derived.Test.YtpgcmgbflcdjiaaGfFs
import Derived.Test.YtpgcmgbflcdjiaaRecString
namespace Go.Proofs.Ytpgcmgbflcdjiaa.fnExactFindDamaged
open Go.RowKit
set_option linter.unusedVariables false
set_option maxRecDepth 20000 in
set_option maxHeartbeats 8000000 in
theorem walk (s0 : Option Addr) (xs0 : List StringV) (cap0 : Nat) (a1 : ByteArray) (a2 : ByteArray) (w : World) (w0 : RecArg rowString w s0 xs0) (v0 : ∀ e ∈ xs0, e.f0.size ≤ maxLen) (w1 : a1.size ≤ maxLen) (w2 : a2.size ≤ maxLen) :
    Calls Try.prog 10 #[.slice s0 xs0.length cap0, .string a1, .string a2] w fun e w' => e = .returned (.bool true) ∧ Below w.heap.size w w' := by
  obtain ⟨hm0, hsl0⟩ := w0
  by_cases hk1 : a1.size ≤ 1048576
  case neg =>
    have hk' : 1048576 < a1.size := by omega
    clear hsl0
    go_enter Try.func10, Try.ntmps10
    go_wp2
    go_ret
    exact ⟨rfl, by go_grown⟩
  case pos =>
    by_cases hk2 : a2.size ≤ 1048576
    case neg =>
      have hk' : 1048576 < a2.size := by omega
      clear hsl0
      go_enter Try.func10, Try.ntmps10
      go_wp2
      go_ret
      exact ⟨rfl, by go_grown⟩
    case pos =>
      by_cases hk0 : wtString xs0 ≤ 1048576
      case neg =>
        have SN0 := Lib.hid (fun w' (hb : Below w.heap.size w w') => (szStringS_any s0 xs0 cap0 1048576 w' (by omega) hm0 v0 (hsl0.below hb (Nat.le_refl _))).mono (fun e w'' ⟨he, hw⟩ => (show e = Ending.returned (.int .i64 (-1)) ∧ Below w'.heap.size w' w'' from ⟨by rw [he]; unfold szV; rw [if_neg hk0], hw⟩)))
        clear hsl0
        go_enter Try.func10, Try.ntmps10
        have FB := Lib.hid (show Below w.heap.size w w from Below.refl _ _)
        have FN : w.heap.size ≤ w.heap.size := Nat.le_refl _
        go_wp2_with fail
        refine (SN0.out _ FB.out).mono ?_
        rintro e w1_ ⟨rfl, hb1⟩
        have hS := Sm.of_below hb1
        replace FB := Lib.hid (below_step FB.out FN hb1)
        have hzw1_ := hb1.size
        replace FN := Nat.le_trans FN hzw1_
        clear hS hb1
        go_wp2
        go_ret
        exact ⟨rfl, FB.out⟩
      case pos =>
        have sz0 := fun w' (hb : Below w.heap.size w w') => (szStringS_any s0 xs0 cap0 1048576 w' (by omega) hm0 v0 (hsl0.below hb (Nat.le_refl _))).mono (fun e w'' ⟨he, hw⟩ => (show e = Ending.returned (.int .i64 ((1048576 - wtString xs0 : Nat) : Int)) ∧ Below w'.heap.size w' w'' from ⟨by rw [he]; unfold szV; rw [if_pos hk0], hw⟩))
        obtain ⟨lf0, hlf0⟩ : ∃ m, 1048576 - wtString xs0 = m := ⟨_, rfl⟩
        rw [hlf0] at sz0
        have hlfb0 : ¬ ((lf0 : Int) < 0) := by omega
        have hlfc0 : lf0 ≤ 1048576 := by omega
        have SZ0 := Lib.hid sz0; clear sz0
        have hn0 : xs0.length ≤ 1048576 := by have := wtString_len xs0; omega
        have hv0 : ∀ e ∈ xs0, e.f0.size ≤ 1048576 := fun e he => by have := wtString_at (Nat.le_refl _) e he; omega
        have hn1 : a1.size ≤ 1048576 := by omega
        have hn2 : a2.size ≤ 1048576 := by omega
        have TO0 := Lib.hid (fun w' (hb : Below w.heap.size w w') => toStringS_any s0 xs0 cap0 w' hn0 (hsl0.below hb (Nat.le_refl _)))
        have EX0 := Lib.hid (fun x d y d' w' (h1 : SlS rowString w' x xs0) (h2 : SlS rowString w' y xs0) => eqStringS_any true x y xs0 xs0 d d' w' (by simp) (by omega) (by omega) h1 h2)
        have hsp := fun g0 w' (h0 : SlS rowString w' (some ⟨g0, 0, none⟩) xs0) => specFindDamaged_any (some ⟨g0, 0, none⟩) xs0.length xs0 a1 a2 hn0 hv0 hn1 hn2 w' h0
        have him := fun g0 w' (h0 : SlS rowString w' (some ⟨g0, 0, none⟩) xs0) => findDamaged_any (some ⟨g0, 0, none⟩) xs0.length xs0 a1 a2 hn0 hv0 hn1 hn2 w' h0
        generalize (fdV xs0 a1 a2) = r0 at hsp him
        have hvq0 : (r0 != r0) = false := by simp
        generalize (fdC xs0 a1 a2) = r1 at hsp him
        have hvq1 : (r1 != r1) = false := by simp
        have SP := Lib.hid hsp; have IM := Lib.hid him; clear hsp him hsl0
        go_enter Try.func10, Try.ntmps10
        have FB := Lib.hid (show Below w.heap.size w w from Below.refl _ _)
        have FN : w.heap.size ≤ w.heap.size := Nat.le_refl _
        go_wp2_with fail
        refine (SZ0.out _ FB.out).mono ?_
        rintro e w1_ ⟨rfl, hb1⟩
        have hS := Sm.of_below hb1
        replace FB := Lib.hid (below_step FB.out FN hb1)
        have hzw1_ := hb1.size
        replace FN := Nat.le_trans FN hzw1_
        clear hS hb1
        go_wp2_with fail
        refine (TO0.out _ FB.out).mono ?_
        rintro e w2_ ⟨g2, rfl, hrow2, hg2, hb2⟩
        have hS := Sm.of_below hb2
        replace FB := Lib.hid (below_step FB.out FN hb2)
        have hzw2_ := hb2.size
        replace FN := Nat.le_trans FN hzw2_
        clear hS hb2
        have R0 := Lib.hid (hrow2.sli hg2)
        clear hrow2 hg2
        go_wp2_with fail
        refine (SP.out _ _ R0.out.sl).mono ?_
        rintro e w3_ ⟨rfl, hb3⟩
        have hS := Sm.of_below hb3
        replace R0 := Lib.hid (R0.out.sm hS (by omega))
        replace FB := Lib.hid (below_step FB.out FN hb3)
        have hzw3_ := hb3.size
        replace FN := Nat.le_trans FN hzw3_
        clear hS hb3
        clear R0
        go_wp2_with fail
        refine (TO0.out _ FB.out).mono ?_
        rintro e w4_ ⟨g4, rfl, hrow4, hg4, hb4⟩
        have hS := Sm.of_below hb4
        replace FB := Lib.hid (below_step FB.out FN hb4)
        have hzw4_ := hb4.size
        replace FN := Nat.le_trans FN hzw4_
        clear hS hb4
        have X0 := Lib.hid (hrow4.sli hg4)
        clear hrow4 hg4
        go_wp2_with fail
        refine (IM.out _ _ X0.out.sl).mono ?_
        rintro e w5_ ⟨rfl, hb5⟩
        have hS := Sm.of_below hb5
        replace X0 := Lib.hid (X0.out.sm hS (by omega))
        replace FB := Lib.hid (below_step FB.out FN hb5)
        have hzw5_ := hb5.size
        replace FN := Nat.le_trans FN hzw5_
        clear hS hb5
        go_wp2_with fail
        refine (TO0.out _ FB.out).mono ?_
        rintro e w6_ ⟨g6, rfl, hrow6, hg6, hb6⟩
        have hS := Sm.of_below hb6
        replace X0 := Lib.hid (X0.out.sm hS (by omega))
        replace FB := Lib.hid (below_step FB.out FN hb6)
        have hzw6_ := hb6.size
        replace FN := Nat.le_trans FN hzw6_
        clear hS hb6
        have Y0 := Lib.hid (hrow6.sli hg6)
        clear hrow6 hg6
        go_wp2_with fail
        refine (EX0.out _ _ _ _ _ X0.out.sl Y0.out.sl).mono ?_
        rintro e w7_ ⟨rfl, hb7⟩
        have hS := Sm.of_below hb7
        replace X0 := Lib.hid (X0.out.sm hS (by omega))
        replace Y0 := Lib.hid (Y0.out.sm hS (by omega))
        replace FB := Lib.hid (below_step FB.out FN hb7)
        have hzw7_ := hb7.size
        replace FN := Nat.le_trans FN hzw7_
        clear hS hb7
        clear Y0
        go_wp2
        go_ret
        exact ⟨rfl, FB.out⟩
end Go.Proofs.Ytpgcmgbflcdjiaa.fnExactFindDamaged
