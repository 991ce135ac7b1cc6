/- FnExactNewDisc: the law's walk. -/
import Derived.Test.YtpcfhfnlpcpofaaSm
import Derived.Test.YtpcfhfnlpcpofaaRecSm
import Derived.Test.YtpcfhfnlpcpofaaOpenFlux
import Derived.Test.YtpcfhfnlpcpofaaBoxes
import Derived.Test.YtpcfhfnlpcpofaaNewIm
import Derived.Test.YtpcfhfnlpcpofaaNewSpec
import Derived.Test.YtpcfhfnlpcpofaaMarkOneDisc
import Derived.Test.YtpcfhfnlpcpofaaOneCut
namespace Go.Proofs.Ytpcfhfnlpcpofaa.fnExactNewDisc
open Go.RowKit
set_option linter.unusedVariables false
set_option maxRecDepth 20000 in
set_option maxHeartbeats 8000000 in
theorem walk (a0 : Int) (a1 : Int) (a2 : Int) (a3 : Int) (w : World) (w0 : (Lit.int .i64 a0).wf = true) (w1 : (Lit.int .i64 a1).wf = true) (w2 : (Lit.int .i64 a2).wf = true) (w3 : (Lit.int .i64 a3).wf = true) :
    Calls Try.prog 5 #[.int .i64 a0, .int .i64 a1, .int .i64 a2, .int .i64 a3] w fun e w' => e = .returned (.bool true) ∧ Below w.heap.size w w' := by
  have hsp := fun  w'  => specNewDisc_g a0 a1 a2 a3  w' 
  have him := fun  w'  => newDisc_g a0 a1 a2 a3  w' 
  have hR := newV_len a0 a1 a2 a3
  generalize newV a0 a1 a2 a3 = rr at hsp him hR
  have heq := fun x d y d' w' (h1 : SlS rowSector w' x rr.f4) (h2 : SlS rowSector w' y rr.f4) => eqDisc_any true rr x d rr y d' w' (by simp) (by omega) (by omega) h1 h2
  have hmk := fun x d B C w' hC h => markDisc_sm rr x d 1 B C w' (by omega) (by omega) (by omega) hC h
  have hhd := fun x d w' (h : SlS rowSector w' x (mkS mkSector 1 2 rr.f4.length)) => heldDisc_any rr x rr.f4.length d 1 w' (by omega) (by omega) (by omega) h
  unfold MarkedS at hmk
  have hk1 : 1 + 2 * rr.f4.length ≤ 134217728 := by omega
  obtain ⟨kr, hkr⟩ : ∃ m, 1 + 2 * rr.f4.length = m := ⟨_, rfl⟩
  rw [hkr] at hmk hhd hk1
  have hkk : ((kr : Int) != (kr : Int)) = false := by simp
  have hkr0 : ¬ ((kr : Int) < 0) := by omega
  have EQ := Lib.hid heq; have MK := Lib.hid hmk; have HD := Lib.hid hhd; clear heq hmk hhd
  generalize newC a0 a1 a2 a3 = r1 at hsp him
  have hvq1 : (r1 != r1) = false := by simp
  have SP := Lib.hid hsp; have IM := Lib.hid him; clear hsp him 
  go_enter Try.func5, Try.ntmps5
  have FB := Lib.hid (show Below w.heap.size w w from Below.refl _ _)
  have FN : w.heap.size ≤ w.heap.size := Nat.le_refl _
  go_wp2_with fail
  refine (SP.out  _ ).mono ?_
  rintro e w1_ ⟨s1, d1, rfl, hso1, hb1⟩
  have hS := Sm.of_below hb1
  replace FB := Lib.hid (below_step FB.out FN hb1)
  have hzw1_ := hb1.size
  replace FN := Nat.le_trans FN hzw1_
  clear hS hb1
  have RS := Lib.hid hso1.within
  clear hso1
  have hS := Sm.alloc w1_ (.cells #[.int .i64 rr.f0, .int .i64 rr.f1, .int .i64 rr.f2, .int .i64 rr.f3, .slice s1 rr.f4.length d1] 29)
  replace RS := Lib.hid (RS.out.sm hS (by omega))
  have CS := Lib.hid (BoxAt.new w1_ #[.int .i64 rr.f0, .int .i64 rr.f1, .int .i64 rr.f2, .int .i64 rr.f3, .slice s1 rr.f4.length d1] 29 w1_.heap.size rfl)
  replace FB := Lib.hid (below_new FB.out FN (.cells #[.int .i64 rr.f0, .int .i64 rr.f1, .int .i64 rr.f2, .int .i64 rr.f3, .slice s1 rr.f4.length d1] 29))
  have hq2 : (w1_.alloc (.cells #[.int .i64 rr.f0, .int .i64 rr.f1, .int .i64 rr.f2, .int .i64 rr.f3, .slice s1 rr.f4.length d1] 29)).heap.size = w1_.heap.size + 1 := by simp
  replace FN : w.heap.size ≤ (w1_.alloc (.cells #[.int .i64 rr.f0, .int .i64 rr.f1, .int .i64 rr.f2, .int .i64 rr.f3, .slice s1 rr.f4.length d1] 29)).heap.size := by omega
  clear hS
  go_wp2_with fail
  refine (IM.out  _ ).mono ?_
  rintro e w3_ ⟨s3, d3, rfl, hso3, hb3⟩
  have hS := Sm.of_below hb3
  replace RS := Lib.hid (RS.out.sm hS (by omega))
  replace CS := Lib.hid (CS.out.sm hS (by omega))
  replace FB := Lib.hid (below_step FB.out FN hb3)
  have hzw3_ := hb3.size
  replace FN := Nat.le_trans FN hzw3_
  clear hS hb3
  have RG := Lib.hid hso3.within
  clear hso3
  have hS := Sm.alloc w3_ (.cells #[.int .i64 rr.f0, .int .i64 rr.f1, .int .i64 rr.f2, .int .i64 rr.f3, .slice s3 rr.f4.length d3] 29)
  replace RS := Lib.hid (RS.out.sm hS (by omega))
  replace CS := Lib.hid (CS.out.sm hS (by omega))
  replace RG := Lib.hid (RG.out.sm hS (by omega))
  have CG := Lib.hid (BoxAt.new w3_ #[.int .i64 rr.f0, .int .i64 rr.f1, .int .i64 rr.f2, .int .i64 rr.f3, .slice s3 rr.f4.length d3] 29 w3_.heap.size rfl)
  replace FB := Lib.hid (below_new FB.out FN (.cells #[.int .i64 rr.f0, .int .i64 rr.f1, .int .i64 rr.f2, .int .i64 rr.f3, .slice s3 rr.f4.length d3] 29))
  have hq4 : (w3_.alloc (.cells #[.int .i64 rr.f0, .int .i64 rr.f1, .int .i64 rr.f2, .int .i64 rr.f3, .slice s3 rr.f4.length d3] 29)).heap.size = w3_.heap.size + 1 := by simp
  replace FN : w.heap.size ≤ (w3_.alloc (.cells #[.int .i64 rr.f0, .int .i64 rr.f1, .int .i64 rr.f2, .int .i64 rr.f3, .slice s3 rr.f4.length d3] 29)).heap.size := by omega
  clear hS
  have xCG0 := CG.out 0 _ rfl
  have xCG1 := CG.out 1 _ rfl
  have xCG2 := CG.out 2 _ rfl
  have xCG3 := CG.out 3 _ rfl
  have xCG4 := CG.out 4 _ rfl
  have xCS0 := CS.out 0 _ rfl
  have xCS1 := CS.out 1 _ rfl
  have xCS2 := CS.out 2 _ rfl
  have xCS3 := CS.out 3 _ rfl
  have xCS4 := CS.out 4 _ rfl
  go_wp2_with fail
  refine (EQ.out _ _ _ _ _ RG.out.sl RS.out.sl).mono ?_
  rintro e w5_ ⟨rfl, hb5⟩
  clear xCG0 xCG1 xCG2 xCG3 xCG4
  clear xCS0 xCS1 xCS2 xCS3 xCS4
  have hS := Sm.of_below hb5
  replace RS := Lib.hid (RS.out.sm hS (by omega))
  replace CS := Lib.hid (CS.out.sm hS (by omega))
  replace RG := Lib.hid (RG.out.sm hS (by omega))
  replace CG := Lib.hid (CG.out.sm hS (by omega))
  replace FB := Lib.hid (below_step FB.out FN hb5)
  have hzw5_ := hb5.size
  replace FN := Nat.le_trans FN hzw5_
  clear hS hb5
  have xCG0 := CG.out 0 _ rfl
  have xCG1 := CG.out 1 _ rfl
  have xCG2 := CG.out 2 _ rfl
  have xCG3 := CG.out 3 _ rfl
  have xCG4 := CG.out 4 _ rfl
  go_wp2_with fail
  refine (MK.out _ _ (w1_.alloc (.cells #[.int .i64 rr.f0, .int .i64 rr.f1, .int .i64 rr.f2, .int .i64 rr.f3, .slice s1 rr.f4.length d1] 29)).heap.size w3_.heap.size _ (by omega) (RG.out.mono (by omega) (by omega))).mono ?_
  rintro e w6_ ⟨rfl, hmr6, hmb6, hms6⟩
  clear xCG0 xCG1 xCG2 xCG3 xCG4
  clear RG
  replace RS := Lib.hid (RS.out.sm hms6 (by omega))
  replace CS := Lib.hid (CS.out.sm hms6 (by omega))
  replace CG := Lib.hid (CG.out.sm hms6 (by omega))
  replace FB := Lib.hid (FB.out.trans (hmb6 _ (by omega) FN))
  have hzm6 := hms6.size
  replace FN := Nat.le_trans FN hzm6
  have RM := Lib.hid hmr6
  clear hmb6 hms6 hmr6
  have xCG0 := CG.out 0 _ rfl
  have xCG1 := CG.out 1 _ rfl
  have xCG2 := CG.out 2 _ rfl
  have xCG3 := CG.out 3 _ rfl
  have xCG4 := CG.out 4 _ rfl
  go_wp2_with fail
  refine (HD.out _ _ _ RM.out.sl).mono ?_
  rintro e w7_ ⟨rfl, hb7⟩
  clear xCG0 xCG1 xCG2 xCG3 xCG4
  have hS := Sm.of_below hb7
  replace RS := Lib.hid (RS.out.sm hS (by omega))
  replace CS := Lib.hid (CS.out.sm hS (by omega))
  replace CG := Lib.hid (CG.out.sm hS (by omega))
  replace RM := Lib.hid (RM.out.sm hS (by omega))
  replace FB := Lib.hid (below_step FB.out FN hb7)
  have hzw7_ := hb7.size
  replace FN := Nat.le_trans FN hzw7_
  clear hS hb7
  go_wp2_with fail
  refine (IM.out  _ ).mono ?_
  rintro e w8_ ⟨s8, d8, rfl, hso8, hb8⟩
  have hS := Sm.of_below hb8
  replace RS := Lib.hid (RS.out.sm hS (by omega))
  replace CS := Lib.hid (CS.out.sm hS (by omega))
  replace CG := Lib.hid (CG.out.sm hS (by omega))
  replace RM := Lib.hid (RM.out.sm hS (by omega))
  replace FB := Lib.hid (below_step FB.out FN hb8)
  have hzw8_ := hb8.size
  replace FN := Nat.le_trans FN hzw8_
  clear hS hb8
  have RH := Lib.hid hso8.within
  clear hso8
  have hS := Sm.alloc w8_ (.cells #[.int .i64 rr.f0, .int .i64 rr.f1, .int .i64 rr.f2, .int .i64 rr.f3, .slice s8 rr.f4.length d8] 29)
  replace RS := Lib.hid (RS.out.sm hS (by omega))
  replace CS := Lib.hid (CS.out.sm hS (by omega))
  replace CG := Lib.hid (CG.out.sm hS (by omega))
  replace RM := Lib.hid (RM.out.sm hS (by omega))
  replace RH := Lib.hid (RH.out.sm hS (by omega))
  have CH := Lib.hid (BoxAt.new w8_ #[.int .i64 rr.f0, .int .i64 rr.f1, .int .i64 rr.f2, .int .i64 rr.f3, .slice s8 rr.f4.length d8] 29 w8_.heap.size rfl)
  replace FB := Lib.hid (below_new FB.out FN (.cells #[.int .i64 rr.f0, .int .i64 rr.f1, .int .i64 rr.f2, .int .i64 rr.f3, .slice s8 rr.f4.length d8] 29))
  have hq9 : (w8_.alloc (.cells #[.int .i64 rr.f0, .int .i64 rr.f1, .int .i64 rr.f2, .int .i64 rr.f3, .slice s8 rr.f4.length d8] 29)).heap.size = w8_.heap.size + 1 := by simp
  replace FN : w.heap.size ≤ (w8_.alloc (.cells #[.int .i64 rr.f0, .int .i64 rr.f1, .int .i64 rr.f2, .int .i64 rr.f3, .slice s8 rr.f4.length d8] 29)).heap.size := by omega
  clear hS
  have xCH0 := CH.out 0 _ rfl
  have xCH1 := CH.out 1 _ rfl
  have xCH2 := CH.out 2 _ rfl
  have xCH3 := CH.out 3 _ rfl
  have xCH4 := CH.out 4 _ rfl
  have xCS0 := CS.out 0 _ rfl
  have xCS1 := CS.out 1 _ rfl
  have xCS2 := CS.out 2 _ rfl
  have xCS3 := CS.out 3 _ rfl
  have xCS4 := CS.out 4 _ rfl
  go_wp2_with fail
  refine (EQ.out _ _ _ _ _ RH.out.sl RS.out.sl).mono ?_
  rintro e w10_ ⟨rfl, hb10⟩
  clear xCH0 xCH1 xCH2 xCH3 xCH4
  clear xCS0 xCS1 xCS2 xCS3 xCS4
  have hS := Sm.of_below hb10
  replace RS := Lib.hid (RS.out.sm hS (by omega))
  replace CS := Lib.hid (CS.out.sm hS (by omega))
  replace CG := Lib.hid (CG.out.sm hS (by omega))
  replace RM := Lib.hid (RM.out.sm hS (by omega))
  replace RH := Lib.hid (RH.out.sm hS (by omega))
  replace CH := Lib.hid (CH.out.sm hS (by omega))
  replace FB := Lib.hid (below_step FB.out FN hb10)
  have hzw10_ := hb10.size
  replace FN := Nat.le_trans FN hzw10_
  clear hS hb10
  have xCG0 := CG.out 0 _ rfl
  have xCG1 := CG.out 1 _ rfl
  have xCG2 := CG.out 2 _ rfl
  have xCG3 := CG.out 3 _ rfl
  have xCG4 := CG.out 4 _ rfl
  go_wp2_with fail
  refine (HD.out _ _ _ RM.out.sl).mono ?_
  rintro e w11_ ⟨rfl, hb11⟩
  clear xCG0 xCG1 xCG2 xCG3 xCG4
  have hS := Sm.of_below hb11
  replace RS := Lib.hid (RS.out.sm hS (by omega))
  replace CS := Lib.hid (CS.out.sm hS (by omega))
  replace CG := Lib.hid (CG.out.sm hS (by omega))
  replace RM := Lib.hid (RM.out.sm hS (by omega))
  replace RH := Lib.hid (RH.out.sm hS (by omega))
  replace CH := Lib.hid (CH.out.sm hS (by omega))
  replace FB := Lib.hid (below_step FB.out FN hb11)
  have hzw11_ := hb11.size
  replace FN := Nat.le_trans FN hzw11_
  clear hS hb11
  go_wp2
  go_ret
  exact ⟨rfl, FB.out⟩
end Go.Proofs.Ytpcfhfnlpcpofaa.fnExactNewDisc
