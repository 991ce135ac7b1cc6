/- FnExactFluxOfTimes: the law's walk. -/
import Derived.Test.YtoehejikohicfaaSm
import Derived.Test.YtoehejikohicfaaOpenFlux
import Derived.Test.YtoehejikohicfaaBoxes
import Derived.Test.YtoehejikohicfaaTimesWrap
namespace Go.Proofs.Ytoehejikohicfaa.fnExactFluxOfTimes
open Go.RowKit
set_option linter.unusedVariables false
set_option maxHeartbeats 8000000 in
theorem walk (s0 : Option Addr) (xs0 : List Int) (cap0 : Nat) (a1 : Int) (a2 : Int) (w : World) (w0 : FluxArg w s0 xs0) (w1 : (Lit.int .i64 a1).wf = true) (w2 : (Lit.int .i64 a2).wf = true) :
    Calls Try.prog 3 #[.slice s0 xs0.length cap0, .int .i64 a1, .int .i64 a2] w fun e w' => e = .returned (.bool true) ∧ Below w.heap.size w w' := by
  obtain ⟨hm0, hsl0⟩ := w0
  by_cases hk0 : xs0.length ≤ 1048576
  case neg =>
    have hk' : 1048576 < xs0.length := by omega
    clear hsl0
    go_enter Try.func3, Try.ntmps3
    go_wp2
    go_ret
    exact ⟨rfl, by go_grown⟩
  case pos =>
    have hn0 : xs0.length ≤ 1048576 := by omega
    have TO0 := Lib.hid (fun w' (hb : Below w.heap.size w w') => toInts_any s0 xs0 cap0 w' hn0 (hsl0.below hb (Nat.le_refl _)))
    have EX0 := Lib.hid (fun x d y d' w' (h1 : SlA w' x xs0) (h2 : SlA w' y xs0) => (eqInt64S_any x y xs0 xs0 d d' w' (by omega) (by omega) h1 h2).mono (fun e w'' ⟨he, hw⟩ => (show e = Ending.returned (.bool true) ∧ _ from ⟨by rw [he]; simp, hw⟩)))
    have hsp := fun g0 w' (h0 : SlA w' (some ⟨g0, 0, none⟩) xs0) => specFluxOfTimes_any a2 (some ⟨g0, 0, none⟩) xs0 xs0.length a1 w' hn0 (bounds_i64 w1).1 (bounds_i64 w1).2 h0
    have him := fun g0 w' (h0 : SlA w' (some ⟨g0, 0, none⟩) xs0) => fluxOfTimes_any (some ⟨g0, 0, none⟩) xs0.length xs0 a1 a2 hn0 w' h0
    have hR := mkVal_len a2 xs0 a1 1 hn0
    generalize mkVal a2 xs0 a1 1 = r at hsp him hR
    obtain ⟨rc, rf, rs, code⟩ := r
    dsimp only at hR
    replace hsp := fun g0 w' (h0 : SlA w' (some ⟨g0, 0, none⟩) xs0) => (hsp g0 w' h0).mono (fun e w'' h => (show ∃ a cap, e = Ending.returned (.tuple #[.agg #[.int .i64 rc, .int .i64 rf, .slice a rs.length cap], .int .i64 code]) ∧ SlO w'' w'.heap.size a rs ∧ Below w'.heap.size w' w'' from h))
    replace him := fun g0 w' (h0 : SlA w' (some ⟨g0, 0, none⟩) xs0) => (him g0 w' h0).mono (fun e w'' h => (show ∃ a cap, e = Ending.returned (.tuple #[.agg #[.int .i64 rc, .int .i64 rf, .slice a rs.length cap], .int .i64 code]) ∧ SlO w'' w'.heap.size a rs ∧ Below w'.heap.size w' w'' from h))
    have hcc : (code != code) = false := by simp
    have hc1 : (code == code) = true := by simp
    have heq := fun x d y d' w' (h1 : SlA w' x rs) (h2 : SlA w' y rs) => eqFlux_any rc rf x rs d rc rf y rs d' w' (by omega) (by omega) h1 h2
    have heq1 : fluxEq rc rf rs rc rf rs = true := by simp [fluxEq]
    rw [heq1] at heq
    have hmk := fun x d B C w' hC h => markFlux_sm rc rf x rs d 1 B C w' (by omega) (by omega) hC h
    have hhd := fun x d w' (h : SlA w' x (fromK ((1 : Nat) : Int) rs.length)) => heldFlux_any rc rf x rs.length d 1 w' (by omega) (by omega) h
    unfold Marked at hmk
    have hk1 : 1 + rs.length ≤ 1048577 := by omega
    obtain ⟨kr, hkr⟩ : ∃ m, 1 + rs.length = m := ⟨_, rfl⟩
    rw [hkr] at hmk hhd hk1
    have hkk : ((kr : Int) != (kr : Int)) = false := by simp
    have hkr0 : ¬ ((kr : Int) < 0) := by omega
    have hmx0 := fun g B C w' hC h => markInt_sm (some ⟨g, 0, none⟩) xs0 xs0.length 1 B C w' (by omega) (by omega) hC h
    unfold Marked at hmx0
    have hxb0 : 1 + xs0.length ≤ 4194304 := by omega
    obtain ⟨kx0, hkx0⟩ : ∃ m, 1 + xs0.length = m := ⟨_, rfl⟩
    rw [hkx0] at hmx0 hxb0
    have hkxz0 : ¬ ((kx0 : Int) < 0) := by omega
    have MX0 := Lib.hid hmx0; clear hmx0
    have EQ := Lib.hid heq; have MK := Lib.hid hmk; have HD := Lib.hid hhd; clear heq hmk hhd
    have SP := Lib.hid hsp; have IM := Lib.hid him; clear hsp him hsl0
    go_enter Try.func3, Try.ntmps3
    have FB := Lib.hid (show Below w.heap.size w w from Below.refl _ _)
    have FN : w.heap.size ≤ w.heap.size := Nat.le_refl _
    go_wp2_with fail
    refine (TO0.out _ FB.out).mono ?_
    rintro e w1_ ⟨g1, rfl, hrow1, hg1, hb1⟩
    have hS := Sm.of_below hb1
    replace FB := Lib.hid (below_step FB.out FN hb1)
    have hzw1_ := hb1.size
    replace FN := Nat.le_trans FN hzw1_
    clear hS hb1
    have R0 := Lib.hid (hrow1.sli hg1)
    clear hrow1 hg1
    go_wp2_with fail
    refine (SP.out _ _ R0.out.sl).mono ?_
    rintro e w2_ ⟨s2, d2, rfl, hso2, hb2⟩
    have hS := Sm.of_below hb2
    replace R0 := Lib.hid (R0.out.sm hS (by omega))
    replace FB := Lib.hid (below_step FB.out FN hb2)
    have hzw2_ := hb2.size
    replace FN := Nat.le_trans FN hzw2_
    clear hS hb2
    have RS := Lib.hid hso2.within
    clear hso2
    have hS := Sm.alloc w2_ (.cells #[.int .i64 rc, .int .i64 rf, .slice s2 rs.length d2] 24)
    replace R0 := Lib.hid (R0.out.sm hS (by omega))
    replace RS := Lib.hid (RS.out.sm hS (by omega))
    have CS := Lib.hid (FluxAt.new w2_ rc rf s2 rs.length d2 24 w2_.heap.size rfl)
    replace FB := Lib.hid (below_new FB.out FN (.cells #[.int .i64 rc, .int .i64 rf, .slice s2 rs.length d2] 24))
    have hq3 : (w2_.alloc (.cells #[.int .i64 rc, .int .i64 rf, .slice s2 rs.length d2] 24)).heap.size = w2_.heap.size + 1 := by simp
    replace FN : w.heap.size ≤ (w2_.alloc (.cells #[.int .i64 rc, .int .i64 rf, .slice s2 rs.length d2] 24)).heap.size := by omega
    clear hS
    clear R0
    go_wp2_with fail
    refine (TO0.out _ FB.out).mono ?_
    rintro e w4_ ⟨g4, rfl, hrow4, hg4, hb4⟩
    have hS := Sm.of_below hb4
    replace RS := Lib.hid (RS.out.sm hS (by omega))
    replace CS := Lib.hid (CS.out.sm hS (by omega))
    replace FB := Lib.hid (below_step FB.out FN hb4)
    have hzw4_ := hb4.size
    replace FN := Nat.le_trans FN hzw4_
    clear hS hb4
    have X0 := Lib.hid (hrow4.sli hg4)
    clear hrow4 hg4
    go_wp2_with fail
    refine (IM.out _ _ X0.out.sl).mono ?_
    rintro e w5_ ⟨s5, d5, rfl, hso5, hb5⟩
    have hS := Sm.of_below hb5
    replace RS := Lib.hid (RS.out.sm hS (by omega))
    replace CS := Lib.hid (CS.out.sm hS (by omega))
    replace X0 := Lib.hid (X0.out.sm hS (by omega))
    replace FB := Lib.hid (below_step FB.out FN hb5)
    have hzw5_ := hb5.size
    replace FN := Nat.le_trans FN hzw5_
    clear hS hb5
    have RG := Lib.hid hso5.within
    clear hso5
    have hS := Sm.alloc w5_ (.cells #[.int .i64 rc, .int .i64 rf, .slice s5 rs.length d5] 24)
    replace RS := Lib.hid (RS.out.sm hS (by omega))
    replace CS := Lib.hid (CS.out.sm hS (by omega))
    replace X0 := Lib.hid (X0.out.sm hS (by omega))
    replace RG := Lib.hid (RG.out.sm hS (by omega))
    have CG := Lib.hid (FluxAt.new w5_ rc rf s5 rs.length d5 24 w5_.heap.size rfl)
    replace FB := Lib.hid (below_new FB.out FN (.cells #[.int .i64 rc, .int .i64 rf, .slice s5 rs.length d5] 24))
    have hq6 : (w5_.alloc (.cells #[.int .i64 rc, .int .i64 rf, .slice s5 rs.length d5] 24)).heap.size = w5_.heap.size + 1 := by simp
    replace FN : w.heap.size ≤ (w5_.alloc (.cells #[.int .i64 rc, .int .i64 rf, .slice s5 rs.length d5] 24)).heap.size := by omega
    clear hS
    obtain ⟨xCG0, xCG1, xCG2⟩ := CG.out
    obtain ⟨xCS0, xCS1, xCS2⟩ := CS.out
    go_wp2_with fail
    refine (EQ.out _ _ _ _ _ RG.out.sl RS.out.sl).mono ?_
    rintro e w7_ ⟨rfl, hb7⟩
    clear xCG0 xCG1 xCG2
    clear xCS0 xCS1 xCS2
    have hS := Sm.of_below hb7
    replace RS := Lib.hid (RS.out.sm hS (by omega))
    replace CS := Lib.hid (CS.out.sm hS (by omega))
    replace X0 := Lib.hid (X0.out.sm hS (by omega))
    replace RG := Lib.hid (RG.out.sm hS (by omega))
    replace CG := Lib.hid (CG.out.sm hS (by omega))
    replace FB := Lib.hid (below_step FB.out FN hb7)
    have hzw7_ := hb7.size
    replace FN := Nat.le_trans FN hzw7_
    clear hS hb7
    go_wp2_with fail
    refine (TO0.out _ FB.out).mono ?_
    rintro e w8_ ⟨g8, rfl, hrow8, hg8, hb8⟩
    have hS := Sm.of_below hb8
    replace RS := Lib.hid (RS.out.sm hS (by omega))
    replace CS := Lib.hid (CS.out.sm hS (by omega))
    replace X0 := Lib.hid (X0.out.sm hS (by omega))
    replace RG := Lib.hid (RG.out.sm hS (by omega))
    replace CG := Lib.hid (CG.out.sm hS (by omega))
    replace FB := Lib.hid (below_step FB.out FN hb8)
    have hzw8_ := hb8.size
    replace FN := Nat.le_trans FN hzw8_
    clear hS hb8
    have Y0 := Lib.hid (hrow8.sli hg8)
    clear hrow8 hg8
    go_wp2_with fail
    refine (EX0.out _ _ _ _ _ X0.out.sl Y0.out.sl).mono ?_
    rintro e w9_ ⟨rfl, hb9⟩
    have hS := Sm.of_below hb9
    replace RS := Lib.hid (RS.out.sm hS (by omega))
    replace CS := Lib.hid (CS.out.sm hS (by omega))
    replace X0 := Lib.hid (X0.out.sm hS (by omega))
    replace RG := Lib.hid (RG.out.sm hS (by omega))
    replace CG := Lib.hid (CG.out.sm hS (by omega))
    replace Y0 := Lib.hid (Y0.out.sm hS (by omega))
    replace FB := Lib.hid (below_step FB.out FN hb9)
    have hzw9_ := hb9.size
    replace FN := Nat.le_trans FN hzw9_
    clear hS hb9
    clear Y0
    go_wp2_with fail
    refine (MX0.out _ (w2_.alloc (.cells #[.int .i64 rc, .int .i64 rf, .slice s2 rs.length d2] 24)).heap.size w4_.heap.size _ (by omega) (X0.out.mono (by omega) (by omega))).mono ?_
    rintro e w10_ ⟨rfl, hmr10, hmb10, hms10⟩
    clear X0
    replace RS := Lib.hid (RS.out.sm hms10 (by omega))
    replace CS := Lib.hid (CS.out.sm hms10 (by omega))
    replace RG := Lib.hid (RG.out.sm hms10 (by omega))
    replace CG := Lib.hid (CG.out.sm hms10 (by omega))
    replace FB := Lib.hid (FB.out.trans (hmb10 _ (by omega) FN))
    have hzm10 := hms10.size
    replace FN := Nat.le_trans FN hzm10
    clear hmb10 hms10 hmr10
    obtain ⟨xCG0, xCG1, xCG2⟩ := CG.out
    obtain ⟨xCS0, xCS1, xCS2⟩ := CS.out
    go_wp2_with fail
    refine (EQ.out _ _ _ _ _ RG.out.sl RS.out.sl).mono ?_
    rintro e w11_ ⟨rfl, hb11⟩
    clear xCG0 xCG1 xCG2
    clear xCS0 xCS1 xCS2
    have hS := Sm.of_below hb11
    replace RS := Lib.hid (RS.out.sm hS (by omega))
    replace CS := Lib.hid (CS.out.sm hS (by omega))
    replace RG := Lib.hid (RG.out.sm hS (by omega))
    replace CG := Lib.hid (CG.out.sm hS (by omega))
    replace FB := Lib.hid (below_step FB.out FN hb11)
    have hzw11_ := hb11.size
    replace FN := Nat.le_trans FN hzw11_
    clear hS hb11
    obtain ⟨xCG0, xCG1, xCG2⟩ := CG.out
    go_wp2_with fail
    refine (MK.out _ _ w4_.heap.size w5_.heap.size _ (by omega) (RG.out.mono (by omega) (by omega))).mono ?_
    rintro e w12_ ⟨rfl, hmr12, hmb12, hms12⟩
    clear xCG0 xCG1 xCG2
    clear RG
    replace RS := Lib.hid (RS.out.sm hms12 (by omega))
    replace CS := Lib.hid (CS.out.sm hms12 (by omega))
    replace CG := Lib.hid (CG.out.sm hms12 (by omega))
    replace FB := Lib.hid (FB.out.trans (hmb12 _ (by omega) FN))
    have hzm12 := hms12.size
    replace FN := Nat.le_trans FN hzm12
    have RM := Lib.hid hmr12
    clear hmb12 hms12 hmr12
    obtain ⟨xCG0, xCG1, xCG2⟩ := CG.out
    go_wp2_with fail
    refine (HD.out _ _ _ RM.out.sl).mono ?_
    rintro e w13_ ⟨rfl, hb13⟩
    clear xCG0 xCG1 xCG2
    have hS := Sm.of_below hb13
    replace RS := Lib.hid (RS.out.sm hS (by omega))
    replace CS := Lib.hid (CS.out.sm hS (by omega))
    replace CG := Lib.hid (CG.out.sm hS (by omega))
    replace RM := Lib.hid (RM.out.sm hS (by omega))
    replace FB := Lib.hid (below_step FB.out FN hb13)
    have hzw13_ := hb13.size
    replace FN := Nat.le_trans FN hzw13_
    clear hS hb13
    go_wp2_with fail
    refine (TO0.out _ FB.out).mono ?_
    rintro e w14_ ⟨g14, rfl, hrow14, hg14, hb14⟩
    have hS := Sm.of_below hb14
    replace RS := Lib.hid (RS.out.sm hS (by omega))
    replace CS := Lib.hid (CS.out.sm hS (by omega))
    replace CG := Lib.hid (CG.out.sm hS (by omega))
    replace RM := Lib.hid (RM.out.sm hS (by omega))
    replace FB := Lib.hid (below_step FB.out FN hb14)
    have hzw14_ := hb14.size
    replace FN := Nat.le_trans FN hzw14_
    clear hS hb14
    have V0 := Lib.hid (hrow14.sli hg14)
    clear hrow14 hg14
    go_wp2_with fail
    refine (IM.out _ _ V0.out.sl).mono ?_
    rintro e w15_ ⟨s15, d15, rfl, hso15, hb15⟩
    have hS := Sm.of_below hb15
    replace RS := Lib.hid (RS.out.sm hS (by omega))
    replace CS := Lib.hid (CS.out.sm hS (by omega))
    replace CG := Lib.hid (CG.out.sm hS (by omega))
    replace RM := Lib.hid (RM.out.sm hS (by omega))
    replace V0 := Lib.hid (V0.out.sm hS (by omega))
    replace FB := Lib.hid (below_step FB.out FN hb15)
    have hzw15_ := hb15.size
    replace FN := Nat.le_trans FN hzw15_
    clear hS hb15
    have RH := Lib.hid hso15.within
    clear hso15
    clear V0
    have hS := Sm.alloc w15_ (.cells #[.int .i64 rc, .int .i64 rf, .slice s15 rs.length d15] 24)
    replace RS := Lib.hid (RS.out.sm hS (by omega))
    replace CS := Lib.hid (CS.out.sm hS (by omega))
    replace CG := Lib.hid (CG.out.sm hS (by omega))
    replace RM := Lib.hid (RM.out.sm hS (by omega))
    replace RH := Lib.hid (RH.out.sm hS (by omega))
    have CH := Lib.hid (FluxAt.new w15_ rc rf s15 rs.length d15 24 w15_.heap.size rfl)
    replace FB := Lib.hid (below_new FB.out FN (.cells #[.int .i64 rc, .int .i64 rf, .slice s15 rs.length d15] 24))
    have hq16 : (w15_.alloc (.cells #[.int .i64 rc, .int .i64 rf, .slice s15 rs.length d15] 24)).heap.size = w15_.heap.size + 1 := by simp
    replace FN : w.heap.size ≤ (w15_.alloc (.cells #[.int .i64 rc, .int .i64 rf, .slice s15 rs.length d15] 24)).heap.size := by omega
    clear hS
    obtain ⟨xCH0, xCH1, xCH2⟩ := CH.out
    obtain ⟨xCS0, xCS1, xCS2⟩ := CS.out
    go_wp2_with fail
    refine (EQ.out _ _ _ _ _ RH.out.sl RS.out.sl).mono ?_
    rintro e w17_ ⟨rfl, hb17⟩
    clear xCH0 xCH1 xCH2
    clear xCS0 xCS1 xCS2
    have hS := Sm.of_below hb17
    replace RS := Lib.hid (RS.out.sm hS (by omega))
    replace CS := Lib.hid (CS.out.sm hS (by omega))
    replace CG := Lib.hid (CG.out.sm hS (by omega))
    replace RM := Lib.hid (RM.out.sm hS (by omega))
    replace RH := Lib.hid (RH.out.sm hS (by omega))
    replace CH := Lib.hid (CH.out.sm hS (by omega))
    replace FB := Lib.hid (below_step FB.out FN hb17)
    have hzw17_ := hb17.size
    replace FN := Nat.le_trans FN hzw17_
    clear hS hb17
    obtain ⟨xCG0, xCG1, xCG2⟩ := CG.out
    go_wp2_with fail
    refine (HD.out _ _ _ RM.out.sl).mono ?_
    rintro e w18_ ⟨rfl, hb18⟩
    clear xCG0 xCG1 xCG2
    have hS := Sm.of_below hb18
    replace RS := Lib.hid (RS.out.sm hS (by omega))
    replace CS := Lib.hid (CS.out.sm hS (by omega))
    replace CG := Lib.hid (CG.out.sm hS (by omega))
    replace RM := Lib.hid (RM.out.sm hS (by omega))
    replace RH := Lib.hid (RH.out.sm hS (by omega))
    replace CH := Lib.hid (CH.out.sm hS (by omega))
    replace FB := Lib.hid (below_step FB.out FN hb18)
    have hzw18_ := hb18.size
    replace FN := Nat.le_trans FN hzw18_
    clear hS hb18
    go_wp2
    go_ret
    exact ⟨rfl, FB.out⟩
end Go.Proofs.Ytoehejikohicfaa.fnExactFluxOfTimes
