/- FnExactPackGaps: the law's walk. -/
import Derived.Test.YtogoklgppepbjaaSm
import Derived.Test.YtogoklgppepbjaaOpenFlux
import Derived.Test.YtogoklgppepbjaaBoxes
import Derived.Test.YtogoklgppepbjaaPackGapsIm
import Derived.Test.YtogoklgppepbjaaPackGapsSp
namespace Go.Proofs.Ytogoklgppepbjaa.fnExactPackGaps
open Go.RowKit
set_option linter.unusedVariables false
set_option maxRecDepth 20000 in
set_option maxHeartbeats 8000000 in
theorem walk (s0 : Option Addr) (xs0 : List Int) (cap0 : Nat) (w : World) (w0 : FluxArg w s0 xs0) :
    Calls Try.prog 7 #[.slice s0 xs0.length cap0] w fun e w' => e = .returned (.bool true) ∧ Below w.heap.size w w' := by
  obtain ⟨hm0, hsl0⟩ := w0
  by_cases hk0 : xs0.length ≤ 1048576
  case neg =>
    have hk' : 1048576 < xs0.length := by omega
    clear hsl0
    go_enter Try.func7, Try.ntmps7
    go_wp2
    go_ret
    exact ⟨rfl, by go_grown⟩
  case pos =>
    have hn0 : xs0.length ≤ 1048576 := by omega
    have TO0 := Lib.hid (fun w' (hb : Below w.heap.size w w') => toInts_any s0 xs0 cap0 w' hn0 (hsl0.below hb (Nat.le_refl _)))
    have EX0 := Lib.hid (fun x d y d' w' (h1 : SlA w' x xs0) (h2 : SlA w' y xs0) => (eqInt64S_any x y xs0 xs0 d d' w' (by omega) (by omega) h1 h2).mono (fun e w'' ⟨he, hw⟩ => (show e = Ending.returned (.bool true) ∧ _ from ⟨by rw [he]; simp, hw⟩)))
    have hsp := fun g0 w' (h0 : SlA w' (some ⟨g0, 0, none⟩) xs0) => specPackGaps_any (some ⟨g0, 0, none⟩) xs0.length xs0 hn0 w' h0
    have him := fun g0 w' (h0 : SlA w' (some ⟨g0, 0, none⟩) xs0) => packGaps_any (some ⟨g0, 0, none⟩) xs0.length xs0 hn0 w' h0
    generalize gapsStr xs0 = r0 at hsp him
    generalize gapsOk xs0 = r1 at hsp him
    have hvq1 : (r1 != r1) = false := by simp
    have SP := Lib.hid hsp; have IM := Lib.hid him; clear hsp him hsl0
    go_enter Try.func7, Try.ntmps7
    have FB := Lib.hid (show Below w.heap.size w w from Below.refl _ _)
    have FN : w.heap.size ≤ w.heap.size := Nat.le_refl _
    go_wp2_with fail
    refine (TO0.out _ FB.out).mono ?_
    rintro e w1_ ⟨g1, rfl, hrow1, hg1, hb1⟩
    have hS := Sm.of_below hb1
    replace FB := Lib.hid (below_step FB.out FN hb1)
    have hzw1_ := hb1.size
    replace FN := Nat.le_trans FN hzw1_
    clear hS hb1
    have R0 := Lib.hid (hrow1.sli hg1)
    clear hrow1 hg1
    go_wp2_with fail
    refine (SP.out _ _ R0.out.sl).mono ?_
    rintro e w2_ ⟨rfl, hb2⟩
    have hS := Sm.of_below hb2
    replace R0 := Lib.hid (R0.out.sm hS (by omega))
    replace FB := Lib.hid (below_step FB.out FN hb2)
    have hzw2_ := hb2.size
    replace FN := Nat.le_trans FN hzw2_
    clear hS hb2
    clear R0
    go_wp2_with fail
    refine (TO0.out _ FB.out).mono ?_
    rintro e w3_ ⟨g3, rfl, hrow3, hg3, hb3⟩
    have hS := Sm.of_below hb3
    replace FB := Lib.hid (below_step FB.out FN hb3)
    have hzw3_ := hb3.size
    replace FN := Nat.le_trans FN hzw3_
    clear hS hb3
    have X0 := Lib.hid (hrow3.sli hg3)
    clear hrow3 hg3
    go_wp2_with fail
    refine (IM.out _ _ X0.out.sl).mono ?_
    rintro e w4_ ⟨rfl, hb4⟩
    have hS := Sm.of_below hb4
    replace X0 := Lib.hid (X0.out.sm hS (by omega))
    replace FB := Lib.hid (below_step FB.out FN hb4)
    have hzw4_ := hb4.size
    replace FN := Nat.le_trans FN hzw4_
    clear hS hb4
    go_wp2_with fail
    refine (TO0.out _ FB.out).mono ?_
    rintro e w5_ ⟨g5, rfl, hrow5, hg5, hb5⟩
    have hS := Sm.of_below hb5
    replace X0 := Lib.hid (X0.out.sm hS (by omega))
    replace FB := Lib.hid (below_step FB.out FN hb5)
    have hzw5_ := hb5.size
    replace FN := Nat.le_trans FN hzw5_
    clear hS hb5
    have Y0 := Lib.hid (hrow5.sli hg5)
    clear hrow5 hg5
    go_wp2_with fail
    refine (EX0.out _ _ _ _ _ X0.out.sl Y0.out.sl).mono ?_
    rintro e w6_ ⟨rfl, hb6⟩
    have hS := Sm.of_below hb6
    replace X0 := Lib.hid (X0.out.sm hS (by omega))
    replace Y0 := Lib.hid (Y0.out.sm hS (by omega))
    replace FB := Lib.hid (below_step FB.out FN hb6)
    have hzw6_ := hb6.size
    replace FN := Nat.le_trans FN hzw6_
    clear hS hb6
    clear Y0
    go_wp2
    go_ret
    exact ⟨rfl, FB.out⟩
end Go.Proofs.Ytogoklgppepbjaa.fnExactPackGaps
