/- FnExactGoneBlocks: the law's walk. -/
import Derived.Test.YtpdodpnhohmjaaaGreatDoorPkGoneBlocksB
import Derived.Test.YtpdodpnhohmjaaaGreatDoorPkGoneBlocksGnbIm
import Derived.Test.YtpdodpnhohmjaaaGreatDoorPkGoneBlocksGnb2Sp
import Derived.Test.YtpdodpnhohmjaaaGreatDoorPkGoneBlocksOffI
import Derived.Test.YtpdodpnhohmjaaaGreatDoorPkGoneBlocksC
import Derived.Test.YtpdodpnhohmjaaaGreatDoorPkGoneBlocksMarkSString
namespace Go.Proofs.YtpdodpnhohmjaaaGreatDoor.fnExactGoneBlocks
open Go.RowKit
set_option maxRecDepth 20000
set_option linter.unusedVariables false
set_option maxRecDepth 20000 in
set_option maxHeartbeats 8000000 in
theorem walk (s0 : Option Addr) (xs0 : List StringV) (cap0 : Nat) (a1 : Int) (w : World) (w0 : RecArg rowString w s0 xs0) (v0 : ∀ e ∈ xs0, e.f0.size ≤ maxLen) (w1 : (Lit.int .i64 a1).wf = true) :
    Calls Tryz.prog 4 #[.slice s0 xs0.length cap0, .int .i64 a1] w fun e w' => e = .returned (.bool true) ∧ Below w.heap.size w w' := by
  obtain ⟨hm0, hsl0⟩ := w0
  by_cases hk0 : wtString xs0 ≤ 1048576
  case neg =>
    have SN0 := Lib.hid (fun w' (hb : Below w.heap.size w w') => (szStringS_any s0 xs0 cap0 1048576 w' (by omega) hm0 v0 (hsl0.below hb (Nat.le_refl _))).mono (fun e w'' ⟨he, hw⟩ => (show e = Ending.returned (.int .i64 (-1)) ∧ Below w'.heap.size w' w'' from ⟨by rw [he]; unfold szV; rw [if_neg hk0], hw⟩)))
    clear hsl0
    go_enter Tryz.func4, Tryz.ntmps4
    have FB := Lib.hid (show Below w.heap.size w w from Below.refl _ _)
    have FN : w.heap.size ≤ w.heap.size := Nat.le_refl _
    go_wp2_with fail
    refine (SN0.out _ FB.out).mono ?_
    rintro e w1_ ⟨rfl, hb1⟩
    have hS := Sm.of_below hb1
    replace FB := Lib.hid (below_step FB.out FN hb1)
    have hzw1_ := hb1.size
    replace FN := Nat.le_trans FN hzw1_
    clear hS hb1
    go_wp2
    go_ret
    exact ⟨rfl, FB.out⟩
  case pos =>
    have sz0 := fun w' (hb : Below w.heap.size w w') => (szStringS_any s0 xs0 cap0 1048576 w' (by omega) hm0 v0 (hsl0.below hb (Nat.le_refl _))).mono (fun e w'' ⟨he, hw⟩ => (show e = Ending.returned (.int .i64 ((1048576 - wtString xs0 : Nat) : Int)) ∧ Below w'.heap.size w' w'' from ⟨by rw [he]; unfold szV; rw [if_pos hk0], hw⟩))
    obtain ⟨lf0, hlf0⟩ : ∃ m, 1048576 - wtString xs0 = m := ⟨_, rfl⟩
    rw [hlf0] at sz0
    have hlfb0 : ¬ ((lf0 : Int) < 0) := by omega
    have hlfc0 : lf0 ≤ 1048576 := by omega
    have SZ0 := Lib.hid sz0; clear sz0
    have hn0 : xs0.length ≤ 1048576 := by have := wtString_len xs0; omega
    have hv0 : ∀ e ∈ xs0, e.f0.size ≤ 1048576 := fun e he => by have := wtString_at (Nat.le_refl _) e he; omega
    have TO0 := Lib.hid (fun w' (hb : Below w.heap.size w w') => toStringS_any s0 xs0 cap0 w' hn0 (hsl0.below hb (Nat.le_refl _)))
    have EX0 := Lib.hid (fun x d y d' w' (h1 : SlS rowString w' x xs0) (h2 : SlS rowString w' y xs0) => eqStringS_any true x y xs0 xs0 d d' w' (by simp) (by omega) (by omega) h1 h2)
    have hsp := fun g0 w' (h0 : SlS rowString w' (some ⟨g0, 0, none⟩) xs0) => specGoneBlocks_any (some ⟨g0, 0, none⟩) xs0.length xs0 a1 hn0 hv0 w' h0
    have him := fun g0 w' (h0 : SlS rowString w' (some ⟨g0, 0, none⟩) xs0) => goneBlocks_any (some ⟨g0, 0, none⟩) xs0.length xs0 a1 hn0 hv0 w' h0
    have hR := gnbL_len xs0 a1
    generalize gnbL xs0 a1 = rs at hsp him hR
    have heq := fun x d y d' w' (h1 : SlA w' x rs) (h2 : SlA w' y rs) => eqInt64S_any x y rs rs d d' w' (by omega) (by omega) h1 h2
    have heq1 : (rs == rs) = true := by simp
    rw [heq1] at heq
    have hmk := fun x d B C w' hC h => markIntP_sm x rs d 1 B C w' (by omega) (by omega) hC h
    have hhd : ∀ x d w', SlA w' x (fromK ((1 : Nat) : Int) rs.length) → Calls Tryz.prog 14 #[.slice x rs.length d, .int .i64 ((1 : Nat) : Int)] w' (fun e w'' => e = .returned (.int .i64 ((1 + rs.length : Nat) : Int)) ∧ Below w'.heap.size w' w'') := fun x d w' h => (heldInt_any x rs.length d 1 w' (by omega) (by omega) h).mono (fun e w'' ⟨he, hw⟩ => ⟨he, by rw [← hw]; exact Below.refl _ _⟩)
    unfold MarkedP at hmk
    have hk1 : 1 + rs.length ≤ 1048577 := by omega
    obtain ⟨kr, hkr⟩ : ∃ m, 1 + rs.length = m := ⟨_, rfl⟩
    rw [hkr] at hmk hhd hk1
    have hkk : ((kr : Int) != (kr : Int)) = false := by simp
    have hkr0 : ¬ ((kr : Int) < 0) := by omega
    have hmx0 := fun g B C w' hC h => markStringS_sm (some ⟨g, 0, none⟩) xs0 xs0.length 1 B C w' (by omega) (by omega) (by omega) hC h
    unfold MarkedS at hmx0
    simp only [Nat.one_mul] at hmx0
    have hxb0 : 1 + xs0.length ≤ 134217728 := by omega
    have hxp0 : 0 < 1 + xs0.length := by omega
    obtain ⟨kx0, hkx0⟩ : ∃ m, 1 + xs0.length = m := ⟨_, rfl⟩
    rw [hkx0] at hmx0 hxb0 hxp0
    have hkxz0 : ¬ ((kx0 : Int) < 0) := by omega
    have MX0 := Lib.hid hmx0; clear hmx0
    have EQ := Lib.hid heq; have MK := Lib.hid hmk; have HD := Lib.hid hhd; clear heq hmk hhd
    generalize gnbC xs0 a1 = r1 at hsp him
    have hvq1 : (r1 != r1) = false := by simp
    have SP := Lib.hid hsp; have IM := Lib.hid him; clear hsp him hsl0
    go_enter Tryz.func4, Tryz.ntmps4
    have FB := Lib.hid (show Below w.heap.size w w from Below.refl _ _)
    have FN : w.heap.size ≤ w.heap.size := Nat.le_refl _
    go_wp2_with fail
    refine (SZ0.out _ FB.out).mono ?_
    rintro e w1_ ⟨rfl, hb1⟩
    have hS := Sm.of_below hb1
    replace FB := Lib.hid (below_step FB.out FN hb1)
    have hzw1_ := hb1.size
    replace FN := Nat.le_trans FN hzw1_
    clear hS hb1
    go_wp2_with fail
    refine (TO0.out _ FB.out).mono ?_
    rintro e w2_ ⟨g2, rfl, hrow2, hg2, hb2⟩
    have hS := Sm.of_below hb2
    replace FB := Lib.hid (below_step FB.out FN hb2)
    have hzw2_ := hb2.size
    replace FN := Nat.le_trans FN hzw2_
    clear hS hb2
    have R0 := Lib.hid (hrow2.sli hg2)
    clear hrow2 hg2
    go_wp2_with fail
    refine (SP.out _ _ R0.out.sl).mono ?_
    rintro e w3_ ⟨s3, d3, rfl, hso3, hb3⟩
    have hS := Sm.of_below hb3
    replace R0 := Lib.hid (R0.out.sm hS (by omega))
    replace FB := Lib.hid (below_step FB.out FN hb3)
    have hzw3_ := hb3.size
    replace FN := Nat.le_trans FN hzw3_
    clear hS hb3
    have RS := Lib.hid hso3.within
    clear hso3
    clear R0
    go_wp2_with fail
    refine (TO0.out _ FB.out).mono ?_
    rintro e w4_ ⟨g4, rfl, hrow4, hg4, hb4⟩
    have hS := Sm.of_below hb4
    replace RS := Lib.hid (RS.out.sm hS (by omega))
    replace FB := Lib.hid (below_step FB.out FN hb4)
    have hzw4_ := hb4.size
    replace FN := Nat.le_trans FN hzw4_
    clear hS hb4
    have X0 := Lib.hid (hrow4.sli hg4)
    clear hrow4 hg4
    go_wp2_with fail
    refine (IM.out _ _ X0.out.sl).mono ?_
    rintro e w5_ ⟨s5, d5, rfl, hso5, hb5⟩
    have hS := Sm.of_below hb5
    replace RS := Lib.hid (RS.out.sm hS (by omega))
    replace X0 := Lib.hid (X0.out.sm hS (by omega))
    replace FB := Lib.hid (below_step FB.out FN hb5)
    have hzw5_ := hb5.size
    replace FN := Nat.le_trans FN hzw5_
    clear hS hb5
    have RG := Lib.hid hso5.within
    clear hso5
    go_wp2_with fail
    refine (EQ.out _ _ _ _ _ RG.out.sl RS.out.sl).mono ?_
    rintro e w6_ ⟨rfl, hb6⟩
    have hS := Sm.of_below hb6
    replace RS := Lib.hid (RS.out.sm hS (by omega))
    replace X0 := Lib.hid (X0.out.sm hS (by omega))
    replace RG := Lib.hid (RG.out.sm hS (by omega))
    replace FB := Lib.hid (below_step FB.out FN hb6)
    have hzw6_ := hb6.size
    replace FN := Nat.le_trans FN hzw6_
    clear hS hb6
    go_wp2_with fail
    refine (TO0.out _ FB.out).mono ?_
    rintro e w7_ ⟨g7, rfl, hrow7, hg7, hb7⟩
    have hS := Sm.of_below hb7
    replace RS := Lib.hid (RS.out.sm hS (by omega))
    replace X0 := Lib.hid (X0.out.sm hS (by omega))
    replace RG := Lib.hid (RG.out.sm hS (by omega))
    replace FB := Lib.hid (below_step FB.out FN hb7)
    have hzw7_ := hb7.size
    replace FN := Nat.le_trans FN hzw7_
    clear hS hb7
    have Y0 := Lib.hid (hrow7.sli hg7)
    clear hrow7 hg7
    go_wp2_with fail
    refine (EX0.out _ _ _ _ _ X0.out.sl Y0.out.sl).mono ?_
    rintro e w8_ ⟨rfl, hb8⟩
    have hS := Sm.of_below hb8
    replace RS := Lib.hid (RS.out.sm hS (by omega))
    replace X0 := Lib.hid (X0.out.sm hS (by omega))
    replace RG := Lib.hid (RG.out.sm hS (by omega))
    replace Y0 := Lib.hid (Y0.out.sm hS (by omega))
    replace FB := Lib.hid (below_step FB.out FN hb8)
    have hzw8_ := hb8.size
    replace FN := Nat.le_trans FN hzw8_
    clear hS hb8
    clear Y0
    go_wp2_with fail
    refine (MX0.out _ w3_.heap.size w4_.heap.size _ (by omega) (X0.out.mono (by omega) (by omega))).mono ?_
    rintro e w9_ ⟨rfl, hmr9, hmb9, hms9⟩
    clear X0
    replace RS := Lib.hid (RS.out.sm hms9 (by omega))
    replace RG := Lib.hid (RG.out.sm hms9 (by omega))
    replace FB := Lib.hid (FB.out.trans (hmb9 _ (by omega) FN))
    have hzm9 := hms9.size
    replace FN := Nat.le_trans FN hzm9
    clear hmb9 hms9 hmr9
    go_wp2_with fail
    refine (EQ.out _ _ _ _ _ RG.out.sl RS.out.sl).mono ?_
    rintro e w10_ ⟨rfl, hb10⟩
    have hS := Sm.of_below hb10
    replace RS := Lib.hid (RS.out.sm hS (by omega))
    replace RG := Lib.hid (RG.out.sm hS (by omega))
    replace FB := Lib.hid (below_step FB.out FN hb10)
    have hzw10_ := hb10.size
    replace FN := Nat.le_trans FN hzw10_
    clear hS hb10
    go_wp2_with fail
    refine (MK.out _ _ w4_.heap.size w5_.heap.size _ (by omega) (RG.out.mono (by omega) (by omega))).mono ?_
    rintro e w11_ ⟨rfl, hmr11, hmb11, hms11⟩
    clear RG
    replace RS := Lib.hid (RS.out.sm hms11 (by omega))
    replace FB := Lib.hid (FB.out.trans (hmb11 _ (by omega) FN))
    have hzm11 := hms11.size
    replace FN := Nat.le_trans FN hzm11
    have RM := Lib.hid hmr11
    clear hmb11 hms11 hmr11
    go_wp2_with fail
    refine (HD.out _ _ _ RM.out.sl).mono ?_
    rintro e w12_ ⟨rfl, hb12⟩
    have hS := Sm.of_below hb12
    replace RS := Lib.hid (RS.out.sm hS (by omega))
    replace RM := Lib.hid (RM.out.sm hS (by omega))
    replace FB := Lib.hid (below_step FB.out FN hb12)
    have hzw12_ := hb12.size
    replace FN := Nat.le_trans FN hzw12_
    clear hS hb12
    go_wp2_with fail
    refine (TO0.out _ FB.out).mono ?_
    rintro e w13_ ⟨g13, rfl, hrow13, hg13, hb13⟩
    have hS := Sm.of_below hb13
    replace RS := Lib.hid (RS.out.sm hS (by omega))
    replace RM := Lib.hid (RM.out.sm hS (by omega))
    replace FB := Lib.hid (below_step FB.out FN hb13)
    have hzw13_ := hb13.size
    replace FN := Nat.le_trans FN hzw13_
    clear hS hb13
    have V0 := Lib.hid (hrow13.sli hg13)
    clear hrow13 hg13
    go_wp2_with fail
    refine (IM.out _ _ V0.out.sl).mono ?_
    rintro e w14_ ⟨s14, d14, rfl, hso14, hb14⟩
    have hS := Sm.of_below hb14
    replace RS := Lib.hid (RS.out.sm hS (by omega))
    replace RM := Lib.hid (RM.out.sm hS (by omega))
    replace V0 := Lib.hid (V0.out.sm hS (by omega))
    replace FB := Lib.hid (below_step FB.out FN hb14)
    have hzw14_ := hb14.size
    replace FN := Nat.le_trans FN hzw14_
    clear hS hb14
    have RH := Lib.hid hso14.within
    clear hso14
    clear V0
    go_wp2_with fail
    refine (EQ.out _ _ _ _ _ RH.out.sl RS.out.sl).mono ?_
    rintro e w15_ ⟨rfl, hb15⟩
    have hS := Sm.of_below hb15
    replace RS := Lib.hid (RS.out.sm hS (by omega))
    replace RM := Lib.hid (RM.out.sm hS (by omega))
    replace RH := Lib.hid (RH.out.sm hS (by omega))
    replace FB := Lib.hid (below_step FB.out FN hb15)
    have hzw15_ := hb15.size
    replace FN := Nat.le_trans FN hzw15_
    clear hS hb15
    go_wp2_with fail
    refine (HD.out _ _ _ RM.out.sl).mono ?_
    rintro e w16_ ⟨rfl, hb16⟩
    have hS := Sm.of_below hb16
    replace RS := Lib.hid (RS.out.sm hS (by omega))
    replace RM := Lib.hid (RM.out.sm hS (by omega))
    replace RH := Lib.hid (RH.out.sm hS (by omega))
    replace FB := Lib.hid (below_step FB.out FN hb16)
    have hzw16_ := hb16.size
    replace FN := Nat.le_trans FN hzw16_
    clear hS hb16
    go_wp2
    go_ret
    exact ⟨rfl, FB.out⟩
end Go.Proofs.YtpdodpnhohmjaaaGreatDoor.fnExactGoneBlocks
