/- FnExactFormatTree: the law's walk. -/
import Derived.Test.YteifmkimhjnjcaaSm
import Derived.Test.YteifmkimhjnjcaaOpenFlux
import Derived.Test.YteifmkimhjnjcaaBoxes
import Derived.Test.YteifmkimhjnjcaaTreeFm
import Derived.Test.YteifmkimhjnjcaaTreeFs
import Derived.Test.YteifmkimhjnjcaaMarkSString
namespace Go.Proofs.Yteifmkimhjnjcaa.fnExactFormatTree
open Go.RowKit
set_option linter.unusedVariables false
set_option maxRecDepth 20000 in
set_option maxHeartbeats 8000000 in
theorem walk (a0 : Int) (w : World) (w0 : (Lit.int .i64 a0).wf = true) :
    Calls Try.prog 5 #[.int .i64 a0] w fun e w' => e = .returned (.bool true) ∧ Below w.heap.size w w' := by
  have hsp := fun  w'  => specFormatTree_any a0  w' 
  have him := fun  w'  => formatTree_any a0  w' 
  have hR := ftL_len a0
  generalize ftL a0 = rs at hsp him hR
  have heq := fun x d y d' w' (h1 : SlS rowString w' x rs) (h2 : SlS rowString w' y rs) => eqStringS_any true x y rs rs d d' w' (by simp) (by omega) (by omega) h1 h2
  have hmk := fun x d B C w' hC h => markStringS_sm x rs d 1 B C w' (by omega) (by omega) (by omega) hC h
  have hhd := fun x d w' (h : SlS rowString w' x (mkS mkString 1 1 rs.length)) => heldStringS_any x rs.length d 1 w' (by omega) (by omega) (by omega) h
  unfold MarkedS at hmk
  have hk1 : 1 + 1 * rs.length ≤ 134217728 := by omega
  obtain ⟨kr, hkr⟩ : ∃ m, 1 + 1 * rs.length = m := ⟨_, rfl⟩
  rw [hkr] at hmk hhd hk1
  have hkk : ((kr : Int) != (kr : Int)) = false := by simp
  have hkr0 : ¬ ((kr : Int) < 0) := by omega
  have EQ := Lib.hid heq; have MK := Lib.hid hmk; have HD := Lib.hid hhd; clear heq hmk hhd
  generalize ftC a0 = r1 at hsp him
  have hvq1 : (r1 != r1) = false := by simp
  have SP := Lib.hid hsp; have IM := Lib.hid him; clear hsp him 
  go_enter Try.func5, Try.ntmps5
  have FB := Lib.hid (show Below w.heap.size w w from Below.refl _ _)
  have FN : w.heap.size ≤ w.heap.size := Nat.le_refl _
  go_wp2_with fail
  refine (SP.out  _ ).mono ?_
  rintro e w1_ ⟨s1, d1, rfl, hso1, hb1⟩
  have hS := Sm.of_below hb1
  replace FB := Lib.hid (below_step FB.out FN hb1)
  have hzw1_ := hb1.size
  replace FN := Nat.le_trans FN hzw1_
  clear hS hb1
  have RS := Lib.hid hso1.within
  clear hso1
  go_wp2_with fail
  refine (IM.out  _ ).mono ?_
  rintro e w2_ ⟨s2, d2, rfl, hso2, hb2⟩
  have hS := Sm.of_below hb2
  replace RS := Lib.hid (RS.out.sm hS (by omega))
  replace FB := Lib.hid (below_step FB.out FN hb2)
  have hzw2_ := hb2.size
  replace FN := Nat.le_trans FN hzw2_
  clear hS hb2
  have RG := Lib.hid hso2.within
  clear hso2
  go_wp2_with fail
  refine (EQ.out _ _ _ _ _ RG.out.sl RS.out.sl).mono ?_
  rintro e w3_ ⟨rfl, hb3⟩
  have hS := Sm.of_below hb3
  replace RS := Lib.hid (RS.out.sm hS (by omega))
  replace RG := Lib.hid (RG.out.sm hS (by omega))
  replace FB := Lib.hid (below_step FB.out FN hb3)
  have hzw3_ := hb3.size
  replace FN := Nat.le_trans FN hzw3_
  clear hS hb3
  go_wp2_with fail
  refine (MK.out _ _ w1_.heap.size w2_.heap.size _ (by omega) (RG.out.mono (by omega) (by omega))).mono ?_
  rintro e w4_ ⟨rfl, hmr4, hmb4, hms4⟩
  clear RG
  replace RS := Lib.hid (RS.out.sm hms4 (by omega))
  replace FB := Lib.hid (FB.out.trans (hmb4 _ (by omega) FN))
  have hzm4 := hms4.size
  replace FN := Nat.le_trans FN hzm4
  have RM := Lib.hid hmr4
  clear hmb4 hms4 hmr4
  go_wp2_with fail
  refine (HD.out _ _ _ RM.out.sl).mono ?_
  rintro e w5_ ⟨rfl, hb5⟩
  have hS := Sm.of_below hb5
  replace RS := Lib.hid (RS.out.sm hS (by omega))
  replace RM := Lib.hid (RM.out.sm hS (by omega))
  replace FB := Lib.hid (below_step FB.out FN hb5)
  have hzw5_ := hb5.size
  replace FN := Nat.le_trans FN hzw5_
  clear hS hb5
  go_wp2_with fail
  refine (IM.out  _ ).mono ?_
  rintro e w6_ ⟨s6, d6, rfl, hso6, hb6⟩
  have hS := Sm.of_below hb6
  replace RS := Lib.hid (RS.out.sm hS (by omega))
  replace RM := Lib.hid (RM.out.sm hS (by omega))
  replace FB := Lib.hid (below_step FB.out FN hb6)
  have hzw6_ := hb6.size
  replace FN := Nat.le_trans FN hzw6_
  clear hS hb6
  have RH := Lib.hid hso6.within
  clear hso6
  go_wp2_with fail
  refine (EQ.out _ _ _ _ _ RH.out.sl RS.out.sl).mono ?_
  rintro e w7_ ⟨rfl, hb7⟩
  have hS := Sm.of_below hb7
  replace RS := Lib.hid (RS.out.sm hS (by omega))
  replace RM := Lib.hid (RM.out.sm hS (by omega))
  replace RH := Lib.hid (RH.out.sm hS (by omega))
  replace FB := Lib.hid (below_step FB.out FN hb7)
  have hzw7_ := hb7.size
  replace FN := Nat.le_trans FN hzw7_
  clear hS hb7
  go_wp2_with fail
  refine (HD.out _ _ _ RM.out.sl).mono ?_
  rintro e w8_ ⟨rfl, hb8⟩
  have hS := Sm.of_below hb8
  replace RS := Lib.hid (RS.out.sm hS (by omega))
  replace RM := Lib.hid (RM.out.sm hS (by omega))
  replace RH := Lib.hid (RH.out.sm hS (by omega))
  replace FB := Lib.hid (below_step FB.out FN hb8)
  have hzw8_ := hb8.size
  replace FN := Nat.le_trans FN hzw8_
  clear hS hb8
  go_wp2
  go_ret
  exact ⟨rfl, FB.out⟩
end Go.Proofs.Yteifmkimhjnjcaa.fnExactFormatTree
