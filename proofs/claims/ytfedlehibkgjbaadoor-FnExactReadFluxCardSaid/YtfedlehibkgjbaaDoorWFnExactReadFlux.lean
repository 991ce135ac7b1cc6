/- FnExactReadFlux: the law's walk. -/
import Derived.Test.YtfedlehibkgjbaaDoorSm
import Derived.Test.YtfedlehibkgjbaaDoorOpenFlux
import Derived.Test.YtfedlehibkgjbaaDoorBoxes
import Derived.Test.YtfedlehibkgjbaaDoorRfxSp
namespace Go.Proofs.YtfedlehibkgjbaaDoor.fnExactReadFlux
open Go.RowKit
set_option linter.unusedVariables false
set_option maxRecDepth 20000 in
set_option maxHeartbeats 8000000 in
theorem walk (a0 : ByteArray) (w : World) (hw : 0 < w.heap.size) (htab : PowTab w) (w0 : a0.size ≤ maxLen) :
    Calls Tryd.prog 3 #[.string a0] w fun e w' => e = .returned (.bool true) ∧ Below w.heap.size w w' := by
  by_cases hk0 : a0.size ≤ 1048576
  case neg =>
    have hk' : 1048576 < a0.size := by omega
    go_enter Tryd.func3, Tryd.ntmps3
    go_wp2
    go_ret
    exact ⟨rfl, by go_grown⟩
  case pos =>
    have hn0 : a0.size ≤ 1048576 := by omega
    have hsp := fun  w'  => specReadFlux_any a0 hn0 w' 
    have him := fun  w' h1 h2 => readFlux_any a0 hn0 w' h1 h2
    have hR := rfVz_len a0
    generalize rfVc a0 = rc at hsp him
    generalize rfVf a0 = rf at hsp him
    generalize rfVz a0 = rs at hsp him hR
    generalize rfOk a0 = code at hsp him
    have HWT := Lib.hid (And.intro hw htab); clear hw htab
    replace hsp := fun  w'  => (hsp  w' ).mono (fun e w'' h => (show ∃ a cap, e = Ending.returned (.tuple #[.agg #[.int .i64 rc, .int .i64 rf, .slice a rs.length cap], .bool code]) ∧ SlO w'' w'.heap.size a rs ∧ Below w'.heap.size w' w'' from h))
    replace him := fun  w' h1 h2 => (him  w' h1 h2).mono (fun e w'' h => (show ∃ a cap, e = Ending.returned (.tuple #[.agg #[.int .i64 rc, .int .i64 rf, .slice a rs.length cap], .bool code]) ∧ SlOP w'' w'.heap.size a rs ∧ Below w'.heap.size w' w'' from h))
    have hcc : (code != code) = false := by simp
    have hc1 : (code == code) = true := by simp
    have heq := fun x d y d' w' (h1 : SlA w' x rs) (h2 : SlA w' y rs) => eqFlux_any rc rf x rs d rc rf y rs d' w' (by omega) (by omega) h1 h2
    have heq1 : fluxEq rc rf rs rc rf rs = true := by simp [fluxEq]
    rw [heq1] at heq
    have hmk := fun x d B C w' hC h => markFluxP_sm rc rf x rs d 1 B C w' (by omega) (by omega) hC h
    have hhd := fun x d w' (h : SlA w' x (fromK ((1 : Nat) : Int) rs.length)) => heldFlux_any rc rf x rs.length d 1 w' (by omega) (by omega) h
    unfold MarkedP at hmk
    have hk1 : 1 + rs.length ≤ 1048577 := by omega
    obtain ⟨kr, hkr⟩ : ∃ m, 1 + rs.length = m := ⟨_, rfl⟩
    rw [hkr] at hmk hhd hk1
    have hkk : ((kr : Int) != (kr : Int)) = false := by simp
    have hkr0 : ¬ ((kr : Int) < 0) := by omega
    have EQ := Lib.hid heq; have MK := Lib.hid hmk; have HD := Lib.hid hhd; clear heq hmk hhd
    have SP := Lib.hid hsp; have IM := Lib.hid him; clear hsp him 
    go_enter Tryd.func3, Tryd.ntmps3
    have FB := Lib.hid (show Below w.heap.size w w from Below.refl _ _)
    have FN : w.heap.size ≤ w.heap.size := Nat.le_refl _
    go_wp2_with fail
    refine (SP.out  _ ).mono ?_
    rintro e w1_ ⟨s1, d1, rfl, hso1, hb1⟩
    have hS := Sm.of_below hb1
    replace FB := Lib.hid (below_step FB.out FN hb1)
    have hzw1_ := hb1.size
    replace FN := Nat.le_trans FN hzw1_
    clear hS hb1
    have RS := Lib.hid hso1.within
    clear hso1
    have hS := Sm.alloc w1_ (.cells #[.int .i64 rc, .int .i64 rf, .slice s1 rs.length d1] 24)
    replace RS := Lib.hid (RS.out.sm hS (by omega))
    have CS := Lib.hid (FluxAt.new w1_ rc rf s1 rs.length d1 24 w1_.heap.size rfl)
    replace FB := Lib.hid (below_new FB.out FN (.cells #[.int .i64 rc, .int .i64 rf, .slice s1 rs.length d1] 24))
    have hq2 : (w1_.alloc (.cells #[.int .i64 rc, .int .i64 rf, .slice s1 rs.length d1] 24)).heap.size = w1_.heap.size + 1 := by simp
    replace FN : w.heap.size ≤ (w1_.alloc (.cells #[.int .i64 rc, .int .i64 rf, .slice s1 rs.length d1] 24)).heap.size := by omega
    clear hS
    go_wp2_with fail
    refine (IM.out  _ (Nat.lt_of_lt_of_le HWT.out.1 FN) (HWT.out.2.below FB.out)).mono ?_
    rintro e w3_ ⟨s3, d3, rfl, hso3, hb3⟩
    have hS := Sm.of_below hb3
    replace RS := Lib.hid (RS.out.sm hS (by omega))
    replace CS := Lib.hid (CS.out.sm hS (by omega))
    replace FB := Lib.hid (below_step FB.out FN hb3)
    have hzw3_ := hb3.size
    replace FN := Nat.le_trans FN hzw3_
    clear hS hb3
    have RG := Lib.hid hso3.within
    clear hso3
    have hS := Sm.alloc w3_ (.cells #[.int .i64 rc, .int .i64 rf, .slice s3 rs.length d3] 24)
    replace RS := Lib.hid (RS.out.sm hS (by omega))
    replace CS := Lib.hid (CS.out.sm hS (by omega))
    replace RG := Lib.hid (RG.out.sm hS (by omega))
    have CG := Lib.hid (FluxAt.new w3_ rc rf s3 rs.length d3 24 w3_.heap.size rfl)
    replace FB := Lib.hid (below_new FB.out FN (.cells #[.int .i64 rc, .int .i64 rf, .slice s3 rs.length d3] 24))
    have hq4 : (w3_.alloc (.cells #[.int .i64 rc, .int .i64 rf, .slice s3 rs.length d3] 24)).heap.size = w3_.heap.size + 1 := by simp
    replace FN : w.heap.size ≤ (w3_.alloc (.cells #[.int .i64 rc, .int .i64 rf, .slice s3 rs.length d3] 24)).heap.size := by omega
    clear hS
    obtain ⟨xCG0, xCG1, xCG2⟩ := CG.out
    obtain ⟨xCS0, xCS1, xCS2⟩ := CS.out
    go_wp2_with fail
    refine (EQ.out _ _ _ _ _ RG.out.sl RS.out.sl).mono ?_
    rintro e w5_ ⟨rfl, hb5⟩
    clear xCG0 xCG1 xCG2
    clear xCS0 xCS1 xCS2
    have hS := Sm.of_below hb5
    replace RS := Lib.hid (RS.out.sm hS (by omega))
    replace CS := Lib.hid (CS.out.sm hS (by omega))
    replace RG := Lib.hid (RG.out.sm hS (by omega))
    replace CG := Lib.hid (CG.out.sm hS (by omega))
    replace FB := Lib.hid (below_step FB.out FN hb5)
    have hzw5_ := hb5.size
    replace FN := Nat.le_trans FN hzw5_
    clear hS hb5
    obtain ⟨xCG0, xCG1, xCG2⟩ := CG.out
    go_wp2_with fail
    refine (MK.out _ _ (w1_.alloc (.cells #[.int .i64 rc, .int .i64 rf, .slice s1 rs.length d1] 24)).heap.size w3_.heap.size _ (by omega) (RG.out.mono (by omega) (by omega))).mono ?_
    rintro e w6_ ⟨rfl, hmr6, hmb6, hms6⟩
    clear xCG0 xCG1 xCG2
    clear RG
    replace RS := Lib.hid (RS.out.sm hms6 (by omega))
    replace CS := Lib.hid (CS.out.sm hms6 (by omega))
    replace CG := Lib.hid (CG.out.sm hms6 (by omega))
    replace FB := Lib.hid (FB.out.trans (hmb6 _ (by omega) FN))
    have hzm6 := hms6.size
    replace FN := Nat.le_trans FN hzm6
    have RM := Lib.hid hmr6
    clear hmb6 hms6 hmr6
    obtain ⟨xCG0, xCG1, xCG2⟩ := CG.out
    go_wp2_with fail
    refine (HD.out _ _ _ RM.out.sl).mono ?_
    rintro e w7_ ⟨rfl, hb7⟩
    clear xCG0 xCG1 xCG2
    have hS := Sm.of_below hb7
    replace RS := Lib.hid (RS.out.sm hS (by omega))
    replace CS := Lib.hid (CS.out.sm hS (by omega))
    replace CG := Lib.hid (CG.out.sm hS (by omega))
    replace RM := Lib.hid (RM.out.sm hS (by omega))
    replace FB := Lib.hid (below_step FB.out FN hb7)
    have hzw7_ := hb7.size
    replace FN := Nat.le_trans FN hzw7_
    clear hS hb7
    go_wp2_with fail
    refine (IM.out  _ (Nat.lt_of_lt_of_le HWT.out.1 FN) (HWT.out.2.below FB.out)).mono ?_
    rintro e w8_ ⟨s8, d8, rfl, hso8, hb8⟩
    have hS := Sm.of_below hb8
    replace RS := Lib.hid (RS.out.sm hS (by omega))
    replace CS := Lib.hid (CS.out.sm hS (by omega))
    replace CG := Lib.hid (CG.out.sm hS (by omega))
    replace RM := Lib.hid (RM.out.sm hS (by omega))
    replace FB := Lib.hid (below_step FB.out FN hb8)
    have hzw8_ := hb8.size
    replace FN := Nat.le_trans FN hzw8_
    clear hS hb8
    have RH := Lib.hid hso8.within
    clear hso8
    have hS := Sm.alloc w8_ (.cells #[.int .i64 rc, .int .i64 rf, .slice s8 rs.length d8] 24)
    replace RS := Lib.hid (RS.out.sm hS (by omega))
    replace CS := Lib.hid (CS.out.sm hS (by omega))
    replace CG := Lib.hid (CG.out.sm hS (by omega))
    replace RM := Lib.hid (RM.out.sm hS (by omega))
    replace RH := Lib.hid (RH.out.sm hS (by omega))
    have CH := Lib.hid (FluxAt.new w8_ rc rf s8 rs.length d8 24 w8_.heap.size rfl)
    replace FB := Lib.hid (below_new FB.out FN (.cells #[.int .i64 rc, .int .i64 rf, .slice s8 rs.length d8] 24))
    have hq9 : (w8_.alloc (.cells #[.int .i64 rc, .int .i64 rf, .slice s8 rs.length d8] 24)).heap.size = w8_.heap.size + 1 := by simp
    replace FN : w.heap.size ≤ (w8_.alloc (.cells #[.int .i64 rc, .int .i64 rf, .slice s8 rs.length d8] 24)).heap.size := by omega
    clear hS
    obtain ⟨xCH0, xCH1, xCH2⟩ := CH.out
    obtain ⟨xCS0, xCS1, xCS2⟩ := CS.out
    go_wp2_with fail
    refine (EQ.out _ _ _ _ _ RH.out.sl RS.out.sl).mono ?_
    rintro e w10_ ⟨rfl, hb10⟩
    clear xCH0 xCH1 xCH2
    clear xCS0 xCS1 xCS2
    have hS := Sm.of_below hb10
    replace RS := Lib.hid (RS.out.sm hS (by omega))
    replace CS := Lib.hid (CS.out.sm hS (by omega))
    replace CG := Lib.hid (CG.out.sm hS (by omega))
    replace RM := Lib.hid (RM.out.sm hS (by omega))
    replace RH := Lib.hid (RH.out.sm hS (by omega))
    replace CH := Lib.hid (CH.out.sm hS (by omega))
    replace FB := Lib.hid (below_step FB.out FN hb10)
    have hzw10_ := hb10.size
    replace FN := Nat.le_trans FN hzw10_
    clear hS hb10
    obtain ⟨xCG0, xCG1, xCG2⟩ := CG.out
    go_wp2_with fail
    refine (HD.out _ _ _ RM.out.sl).mono ?_
    rintro e w11_ ⟨rfl, hb11⟩
    clear xCG0 xCG1 xCG2
    have hS := Sm.of_below hb11
    replace RS := Lib.hid (RS.out.sm hS (by omega))
    replace CS := Lib.hid (CS.out.sm hS (by omega))
    replace CG := Lib.hid (CG.out.sm hS (by omega))
    replace RM := Lib.hid (RM.out.sm hS (by omega))
    replace RH := Lib.hid (RH.out.sm hS (by omega))
    replace CH := Lib.hid (CH.out.sm hS (by omega))
    replace FB := Lib.hid (below_step FB.out FN hb11)
    have hzw11_ := hb11.size
    replace FN := Nat.le_trans FN hzw11_
    clear hS hb11
    go_wp2
    go_ret
    exact ⟨rfl, FB.out⟩
end Go.Proofs.YtfedlehibkgjbaaDoor.fnExactReadFlux
