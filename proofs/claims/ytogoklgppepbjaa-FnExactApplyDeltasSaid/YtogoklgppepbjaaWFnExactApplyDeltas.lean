/- FnExactApplyDeltas: the law's walk. -/
import Derived.Test.YtogoklgppepbjaaSm
import Derived.Test.YtogoklgppepbjaaRecSm
import Derived.Test.YtogoklgppepbjaaBoxes
import Derived.Test.YtogoklgppepbjaaApplyIm
import Derived.Test.YtogoklgppepbjaaApplySp
import Derived.Test.YtogoklgppepbjaaRecDelta
namespace Go.Proofs.Ytogoklgppepbjaa.fnExactApplyDeltas
open Go.RowKit
set_option linter.unusedVariables false
set_option maxRecDepth 20000 in
set_option maxHeartbeats 8000000 in
theorem walk (a0 : ByteArray) (s1 : Option Addr) (xs1 : List DeltaV) (cap1 : Nat) (w : World) (w0 : a0.size ≤ maxLen) (w1 : RecArg rowDelta w s1 xs1) (v1 : ∀ e ∈ xs1, e.f1.size ≤ maxLen) :
    Calls Try.prog 6 #[.string a0, .slice s1 xs1.length cap1] w fun e w' => e = .returned (.bool true) ∧ Below w.heap.size w w' := by
  obtain ⟨hm1, hsl1⟩ := w1
  by_cases hk0 : a0.size ≤ 1048576
  case neg =>
    have hk' : 1048576 < a0.size := by omega
    clear hsl1
    go_enter Try.func6, Try.ntmps6
    go_wp2
    go_ret
    exact ⟨rfl, by go_grown⟩
  case pos =>
    by_cases hk1 : wtDelta xs1 ≤ 1048576
    case neg =>
      have SN1 := Lib.hid (fun w' (hb : Below w.heap.size w w') => (szDeltaS_any s1 xs1 cap1 1048576 w' (by omega) hm1 v1 (hsl1.below hb (Nat.le_refl _))).mono (fun e w'' ⟨he, hw⟩ => (show e = Ending.returned (.int .i64 (-1)) ∧ Below w'.heap.size w' w'' from ⟨by rw [he]; unfold szV; rw [if_neg hk1], hw⟩)))
      clear hsl1
      go_enter Try.func6, Try.ntmps6
      have FB := Lib.hid (show Below w.heap.size w w from Below.refl _ _)
      have FN : w.heap.size ≤ w.heap.size := Nat.le_refl _
      go_wp2_with fail
      refine (SN1.out _ FB.out).mono ?_
      rintro e w1_ ⟨rfl, hb1⟩
      have hS := Sm.of_below hb1
      replace FB := Lib.hid (below_step FB.out FN hb1)
      have hzw1_ := hb1.size
      replace FN := Nat.le_trans FN hzw1_
      clear hS hb1
      go_wp2
      go_ret
      exact ⟨rfl, FB.out⟩
    case pos =>
      have sz1 := fun w' (hb : Below w.heap.size w w') => (szDeltaS_any s1 xs1 cap1 1048576 w' (by omega) hm1 v1 (hsl1.below hb (Nat.le_refl _))).mono (fun e w'' ⟨he, hw⟩ => (show e = Ending.returned (.int .i64 ((1048576 - wtDelta xs1 : Nat) : Int)) ∧ Below w'.heap.size w' w'' from ⟨by rw [he]; unfold szV; rw [if_pos hk1], hw⟩))
      obtain ⟨lf1, hlf1⟩ : ∃ m, 1048576 - wtDelta xs1 = m := ⟨_, rfl⟩
      rw [hlf1] at sz1
      have hlfb1 : ¬ ((lf1 : Int) < 0) := by omega
      have hlfc1 : lf1 ≤ 1048576 := by omega
      have SZ1 := Lib.hid sz1; clear sz1
      have hn0 : a0.size ≤ 1048576 := by omega
      have hn1 : xs1.length ≤ 1048576 := by have := wtDelta_len xs1; omega
      have hv1 : ∀ e ∈ xs1, e.f1.size ≤ 1048576 := fun e he => by have := wtDelta_at (Nat.le_refl _) e he; omega
      have TO1 := Lib.hid (fun w' (hb : Below w.heap.size w w') => toDeltaS_any s1 xs1 cap1 w' hn1 (hsl1.below hb (Nat.le_refl _)))
      have EX1 := Lib.hid (fun x d y d' w' (h1 : SlS rowDelta w' x xs1) (h2 : SlS rowDelta w' y xs1) => eqDeltaS_any true x y xs1 xs1 d d' w' (by simp) (by omega) (by omega) h1 h2)
      have hsp := fun g1 w' (h1 : SlS rowDelta w' (some ⟨g1, 0, none⟩) xs1) => specApplyDeltas_any a0 (some ⟨g1, 0, none⟩) xs1.length xs1 hn0 hn1 hv1 w' h1
      have him := fun g1 w' (h1 : SlS rowDelta w' (some ⟨g1, 0, none⟩) xs1) => applyDeltas_any a0 (some ⟨g1, 0, none⟩) xs1.length xs1 hn0 hn1 hv1 w' h1
      generalize apV a0 xs1 = r0 at hsp him
      generalize apB a0 xs1 = r1 at hsp him
      have hvq1 : (r1 != r1) = false := by simp
      have SP := Lib.hid hsp; have IM := Lib.hid him; clear hsp him hsl1
      go_enter Try.func6, Try.ntmps6
      have FB := Lib.hid (show Below w.heap.size w w from Below.refl _ _)
      have FN : w.heap.size ≤ w.heap.size := Nat.le_refl _
      go_wp2_with fail
      refine (SZ1.out _ FB.out).mono ?_
      rintro e w1_ ⟨rfl, hb1⟩
      have hS := Sm.of_below hb1
      replace FB := Lib.hid (below_step FB.out FN hb1)
      have hzw1_ := hb1.size
      replace FN := Nat.le_trans FN hzw1_
      clear hS hb1
      go_wp2_with fail
      refine (TO1.out _ FB.out).mono ?_
      rintro e w2_ ⟨g2, rfl, hrow2, hg2, hb2⟩
      have hS := Sm.of_below hb2
      replace FB := Lib.hid (below_step FB.out FN hb2)
      have hzw2_ := hb2.size
      replace FN := Nat.le_trans FN hzw2_
      clear hS hb2
      have R1 := Lib.hid (hrow2.sli hg2)
      clear hrow2 hg2
      go_wp2_with fail
      refine (SP.out _ _ R1.out.sl).mono ?_
      rintro e w3_ ⟨rfl, hb3⟩
      have hS := Sm.of_below hb3
      replace R1 := Lib.hid (R1.out.sm hS (by omega))
      replace FB := Lib.hid (below_step FB.out FN hb3)
      have hzw3_ := hb3.size
      replace FN := Nat.le_trans FN hzw3_
      clear hS hb3
      clear R1
      go_wp2_with fail
      refine (TO1.out _ FB.out).mono ?_
      rintro e w4_ ⟨g4, rfl, hrow4, hg4, hb4⟩
      have hS := Sm.of_below hb4
      replace FB := Lib.hid (below_step FB.out FN hb4)
      have hzw4_ := hb4.size
      replace FN := Nat.le_trans FN hzw4_
      clear hS hb4
      have X1 := Lib.hid (hrow4.sli hg4)
      clear hrow4 hg4
      go_wp2_with fail
      refine (IM.out _ _ X1.out.sl).mono ?_
      rintro e w5_ ⟨rfl, hb5⟩
      have hS := Sm.of_below hb5
      replace X1 := Lib.hid (X1.out.sm hS (by omega))
      replace FB := Lib.hid (below_step FB.out FN hb5)
      have hzw5_ := hb5.size
      replace FN := Nat.le_trans FN hzw5_
      clear hS hb5
      go_wp2_with fail
      refine (TO1.out _ FB.out).mono ?_
      rintro e w6_ ⟨g6, rfl, hrow6, hg6, hb6⟩
      have hS := Sm.of_below hb6
      replace X1 := Lib.hid (X1.out.sm hS (by omega))
      replace FB := Lib.hid (below_step FB.out FN hb6)
      have hzw6_ := hb6.size
      replace FN := Nat.le_trans FN hzw6_
      clear hS hb6
      have Y1 := Lib.hid (hrow6.sli hg6)
      clear hrow6 hg6
      go_wp2_with fail
      refine (EX1.out _ _ _ _ _ X1.out.sl Y1.out.sl).mono ?_
      rintro e w7_ ⟨rfl, hb7⟩
      have hS := Sm.of_below hb7
      replace X1 := Lib.hid (X1.out.sm hS (by omega))
      replace Y1 := Lib.hid (Y1.out.sm hS (by omega))
      replace FB := Lib.hid (below_step FB.out FN hb7)
      have hzw7_ := hb7.size
      replace FN := Nat.le_trans FN hzw7_
      clear hS hb7
      clear Y1
      go_wp2
      go_ret
      exact ⟨rfl, FB.out⟩
end Go.Proofs.Ytogoklgppepbjaa.fnExactApplyDeltas
