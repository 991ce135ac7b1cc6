/- FnExactDropChanges: the law's walk. -/
import Derived.Test.YtgmnaikgjfbgkaaSm
import Derived.Test.YtgmnaikgjfbgkaaOpenFlux
import Derived.Test.YtgmnaikgjfbgkaaBoxes
import Derived.Test.YtgmnaikgjfbgkaaSpecDrop
namespace Go.Proofs.Ytgmnaikgjfbgkaa.fnExactDropChanges
open Go.RowKit
set_option linter.unusedVariables false
set_option maxHeartbeats 8000000 in
theorem walk (c0 f0 : Int) (s0 : Option Addr) (xs0 : List Int) (cap0 : Nat) (s1 : Option Addr) (xs1 : List Int) (cap1 : Nat) (w : World) (w0 : FluxArg w s0 xs0) (w1 : FluxArg w s1 xs1) :
    Calls Try.prog 9 #[.agg #[.int .i64 c0, .int .i64 f0, .slice s0 xs0.length cap0], .slice s1 xs1.length cap1] w fun e w' => e = .returned (.bool true) ∧ Below w.heap.size w w' := by
  obtain ⟨hm0, hsl0⟩ := w0
  obtain ⟨hm1, hsl1⟩ := w1
  by_cases hk1 : xs1.length ≤ 1048576
  case neg =>
    have hk' : 1048576 < xs1.length := by omega
    clear hsl0 hsl1
    go_enter Try.func9, Try.ntmps9
    go_wp2
    go_ret
    exact ⟨rfl, by go_grown⟩
  case pos =>
    by_cases hk0 : xs0.length ≤ 1048576
    case neg =>
      have SN0 := Lib.hid (fun w' => szFlux_no c0 f0 s0 xs0.length cap0 1048576 w' (by omega) hm0 (by omega))
      clear hsl0 hsl1
      go_enter Try.func9, Try.ntmps9
      have FB := Lib.hid (show Below w.heap.size w w from Below.refl _ _)
      have FN : w.heap.size ≤ w.heap.size := Nat.le_refl _
      have hS := Sm.alloc w (.cells #[.int .i64 c0, .int .i64 f0, .slice s0 xs0.length cap0] 35)
      have BX0 := Lib.hid (FluxAt.new w c0 f0 s0 xs0.length cap0 35 w.heap.size rfl)
      replace FB := Lib.hid (below_new FB.out FN (.cells #[.int .i64 c0, .int .i64 f0, .slice s0 xs0.length cap0] 35))
      have hq1 : (w.alloc (.cells #[.int .i64 c0, .int .i64 f0, .slice s0 xs0.length cap0] 35)).heap.size = w.heap.size + 1 := by simp
      replace FN : w.heap.size ≤ (w.alloc (.cells #[.int .i64 c0, .int .i64 f0, .slice s0 xs0.length cap0] 35)).heap.size := by omega
      clear hS
      obtain ⟨xBX00, xBX01, xBX02⟩ := BX0.out
      go_wp2_with fail
      refine (SN0.out _).mono ?_
      rintro e w2_ ⟨rfl, hb2⟩
      clear xBX00 xBX01 xBX02
      have hS := Sm.of_below hb2
      replace BX0 := Lib.hid (BX0.out.sm hS (by omega))
      replace FB := Lib.hid (below_step FB.out FN hb2)
      have hzw2_ := hb2.size
      replace FN := Nat.le_trans FN hzw2_
      clear hS hb2
      go_wp2
      go_ret
      exact ⟨rfl, FB.out⟩
    case pos =>
      have sz0 := fun w' => szFlux_yes c0 f0 s0 xs0.length cap0 1048576 w' (by omega) hk0
      obtain ⟨lf0, hlf0⟩ : ∃ m, 1048576 - xs0.length = m := ⟨_, rfl⟩
      rw [hlf0] at sz0
      have hlfb0 : ¬ ((lf0 : Int) < 0) := by omega
      have hlfc0 : lf0 ≤ 1048576 := by omega
      have SZ0 := Lib.hid sz0; clear sz0
      have hn0 : xs0.length ≤ 1048576 := by omega
      have hn1 : xs1.length ≤ 1048576 := by omega
      have TO0 := Lib.hid (fun w' (hb : Below w.heap.size w w') => toFlux_any c0 f0 s0 xs0 cap0 w' hn0 (hsl0.below hb (Nat.le_refl _)))
      have EX0 := Lib.hid (fun x d y d' w' (h1 : SlA w' x xs0) (h2 : SlA w' y xs0) => (eqFlux_any c0 f0 x xs0 d c0 f0 y xs0 d' w' (by omega) (by omega) h1 h2).mono (fun e w'' ⟨he, hw⟩ => (show e = Ending.returned (.bool true) ∧ _ from ⟨by rw [he]; simp [fluxEq], hw⟩)))
      have TO1 := Lib.hid (fun w' (hb : Below w.heap.size w w') => toInts_any s1 xs1 cap1 w' hn1 (hsl1.below hb (Nat.le_refl _)))
      have EX1 := Lib.hid (fun x d y d' w' (h1 : SlA w' x xs1) (h2 : SlA w' y xs1) => (eqInt64S_any x y xs1 xs1 d d' w' (by omega) (by omega) h1 h2).mono (fun e w'' ⟨he, hw⟩ => (show e = Ending.returned (.bool true) ∧ _ from ⟨by rw [he]; simp, hw⟩)))
      have hsp := fun g0 g1 w' (h0 : SlA w' (some ⟨g0, 0, none⟩) xs0) (h1 : SlA w' (some ⟨g1, 0, none⟩) xs1) => specDropChanges_any c0 f0 (some ⟨g0, 0, none⟩) xs0.length xs0 (some ⟨g1, 0, none⟩) xs1.length xs1 hn0 hn1 w' h0 h1
      have him := fun g0 g1 w' (h0 : SlA w' (some ⟨g0, 0, none⟩) xs0) (h1 : SlA w' (some ⟨g1, 0, none⟩) xs1) => dropChanges_any c0 f0 (some ⟨g0, 0, none⟩) xs0.length xs0 (some ⟨g1, 0, none⟩) xs1.length xs1 hn0 hn1 w' h0 h1
      have hR := dropVal_len c0 f0 xs0 xs1 hn0
      generalize dropVal c0 f0 xs0 xs1 = r at hsp him hR
      obtain ⟨rc, rf, rs, code⟩ := r
      dsimp only at hR
      replace hsp := fun g0 g1 w' (h0 : SlA w' (some ⟨g0, 0, none⟩) xs0) (h1 : SlA w' (some ⟨g1, 0, none⟩) xs1) => (hsp g0 g1 w' h0 h1).mono (fun e w'' h => (show ∃ a cap, e = Ending.returned (.tuple #[.agg #[.int .i64 rc, .int .i64 rf, .slice a rs.length cap], .int .i64 code]) ∧ SlO w'' w'.heap.size a rs ∧ Below w'.heap.size w' w'' from h))
      replace him := fun g0 g1 w' (h0 : SlA w' (some ⟨g0, 0, none⟩) xs0) (h1 : SlA w' (some ⟨g1, 0, none⟩) xs1) => (him g0 g1 w' h0 h1).mono (fun e w'' h => (show ∃ a cap, e = Ending.returned (.tuple #[.agg #[.int .i64 rc, .int .i64 rf, .slice a rs.length cap], .int .i64 code]) ∧ SlO w'' w'.heap.size a rs ∧ Below w'.heap.size w' w'' from h))
      have hcc : (code != code) = false := by simp
      have hc1 : (code == code) = true := by simp
      have heq := fun x d y d' w' (h1 : SlA w' x rs) (h2 : SlA w' y rs) => eqFlux_any rc rf x rs d rc rf y rs d' w' (by omega) (by omega) h1 h2
      have heq1 : fluxEq rc rf rs rc rf rs = true := by simp [fluxEq]
      rw [heq1] at heq
      have hmk := fun x d B C w' hC h => markFlux_sm rc rf x rs d 1 B C w' (by omega) (by omega) hC h
      have hhd := fun x d w' (h : SlA w' x (fromK ((1 : Nat) : Int) rs.length)) => heldFlux_any rc rf x rs.length d 1 w' (by omega) (by omega) h
      unfold Marked at hmk
      have hk1 : 1 + rs.length ≤ 1048577 := by omega
      obtain ⟨kr, hkr⟩ : ∃ m, 1 + rs.length = m := ⟨_, rfl⟩
      rw [hkr] at hmk hhd hk1
      have hkk : ((kr : Int) != (kr : Int)) = false := by simp
      have hkr0 : ¬ ((kr : Int) < 0) := by omega
      have hmx0 := fun g B C w' hC h => markFlux_sm c0 f0 (some ⟨g, 0, none⟩) xs0 xs0.length 1 B C w' (by omega) (by omega) hC h
      unfold Marked at hmx0
      have hxb0 : 1 + xs0.length ≤ 4194304 := by omega
      obtain ⟨kx0, hkx0⟩ : ∃ m, 1 + xs0.length = m := ⟨_, rfl⟩
      rw [hkx0] at hmx0 hxb0
      have hkxz0 : ¬ ((kx0 : Int) < 0) := by omega
      have MX0 := Lib.hid hmx0; clear hmx0
      have hmx1 := fun g B C w' hC h => markInt_sm (some ⟨g, 0, none⟩) xs1 xs1.length kx0 B C w' (by omega) (by omega) hC h
      unfold Marked at hmx1
      have hxb1 : kx0 + xs1.length ≤ 4194304 := by omega
      obtain ⟨kx1, hkx1⟩ : ∃ m, kx0 + xs1.length = m := ⟨_, rfl⟩
      rw [hkx1] at hmx1 hxb1
      have hkxz1 : ¬ ((kx1 : Int) < 0) := by omega
      have MX1 := Lib.hid hmx1; clear hmx1
      have EQ := Lib.hid heq; have MK := Lib.hid hmk; have HD := Lib.hid hhd; clear heq hmk hhd
      have SP := Lib.hid hsp; have IM := Lib.hid him; clear hsp him hsl0 hsl1
      go_enter Try.func9, Try.ntmps9
      have FB := Lib.hid (show Below w.heap.size w w from Below.refl _ _)
      have FN : w.heap.size ≤ w.heap.size := Nat.le_refl _
      have hS := Sm.alloc w (.cells #[.int .i64 c0, .int .i64 f0, .slice s0 xs0.length cap0] 35)
      have BX0 := Lib.hid (FluxAt.new w c0 f0 s0 xs0.length cap0 35 w.heap.size rfl)
      replace FB := Lib.hid (below_new FB.out FN (.cells #[.int .i64 c0, .int .i64 f0, .slice s0 xs0.length cap0] 35))
      have hq1 : (w.alloc (.cells #[.int .i64 c0, .int .i64 f0, .slice s0 xs0.length cap0] 35)).heap.size = w.heap.size + 1 := by simp
      replace FN : w.heap.size ≤ (w.alloc (.cells #[.int .i64 c0, .int .i64 f0, .slice s0 xs0.length cap0] 35)).heap.size := by omega
      clear hS
      obtain ⟨xBX00, xBX01, xBX02⟩ := BX0.out
      go_wp2_with fail
      refine (SZ0.out _).mono ?_
      rintro e w2_ ⟨rfl, hb2⟩
      clear xBX00 xBX01 xBX02
      have hS := Sm.of_below hb2
      replace BX0 := Lib.hid (BX0.out.sm hS (by omega))
      replace FB := Lib.hid (below_step FB.out FN hb2)
      have hzw2_ := hb2.size
      replace FN := Nat.le_trans FN hzw2_
      clear hS hb2
      obtain ⟨xBX00, xBX01, xBX02⟩ := BX0.out
      go_wp2_with fail
      refine (TO0.out _ FB.out).mono ?_
      rintro e w3_ ⟨g3, rfl, hrow3, hg3, hb3⟩
      clear xBX00 xBX01 xBX02
      have hS := Sm.of_below hb3
      replace BX0 := Lib.hid (BX0.out.sm hS (by omega))
      replace FB := Lib.hid (below_step FB.out FN hb3)
      have hzw3_ := hb3.size
      replace FN := Nat.le_trans FN hzw3_
      clear hS hb3
      have R0 := Lib.hid (hrow3.sli hg3)
      clear hrow3 hg3
      go_wp2_with fail
      refine (TO1.out _ FB.out).mono ?_
      rintro e w4_ ⟨g4, rfl, hrow4, hg4, hb4⟩
      have hS := Sm.of_below hb4
      replace BX0 := Lib.hid (BX0.out.sm hS (by omega))
      replace R0 := Lib.hid (R0.out.sm hS (by omega))
      replace FB := Lib.hid (below_step FB.out FN hb4)
      have hzw4_ := hb4.size
      replace FN := Nat.le_trans FN hzw4_
      clear hS hb4
      have R1 := Lib.hid (hrow4.sli hg4)
      clear hrow4 hg4
      go_wp2_with fail
      refine (SP.out _ _ _ R0.out.sl R1.out.sl).mono ?_
      rintro e w5_ ⟨s5, d5, rfl, hso5, hb5⟩
      have hS := Sm.of_below hb5
      replace BX0 := Lib.hid (BX0.out.sm hS (by omega))
      replace R0 := Lib.hid (R0.out.sm hS (by omega))
      replace R1 := Lib.hid (R1.out.sm hS (by omega))
      replace FB := Lib.hid (below_step FB.out FN hb5)
      have hzw5_ := hb5.size
      replace FN := Nat.le_trans FN hzw5_
      clear hS hb5
      have RS := Lib.hid hso5.within
      clear hso5
      have hS := Sm.alloc w5_ (.cells #[.int .i64 rc, .int .i64 rf, .slice s5 rs.length d5] 39)
      replace BX0 := Lib.hid (BX0.out.sm hS (by omega))
      replace R0 := Lib.hid (R0.out.sm hS (by omega))
      replace R1 := Lib.hid (R1.out.sm hS (by omega))
      replace RS := Lib.hid (RS.out.sm hS (by omega))
      have CS := Lib.hid (FluxAt.new w5_ rc rf s5 rs.length d5 39 w5_.heap.size rfl)
      replace FB := Lib.hid (below_new FB.out FN (.cells #[.int .i64 rc, .int .i64 rf, .slice s5 rs.length d5] 39))
      have hq6 : (w5_.alloc (.cells #[.int .i64 rc, .int .i64 rf, .slice s5 rs.length d5] 39)).heap.size = w5_.heap.size + 1 := by simp
      replace FN : w.heap.size ≤ (w5_.alloc (.cells #[.int .i64 rc, .int .i64 rf, .slice s5 rs.length d5] 39)).heap.size := by omega
      clear hS
      clear R0
      clear R1
      obtain ⟨xBX00, xBX01, xBX02⟩ := BX0.out
      go_wp2_with fail
      refine (TO0.out _ FB.out).mono ?_
      rintro e w7_ ⟨g7, rfl, hrow7, hg7, hb7⟩
      clear xBX00 xBX01 xBX02
      have hS := Sm.of_below hb7
      replace BX0 := Lib.hid (BX0.out.sm hS (by omega))
      replace RS := Lib.hid (RS.out.sm hS (by omega))
      replace CS := Lib.hid (CS.out.sm hS (by omega))
      replace FB := Lib.hid (below_step FB.out FN hb7)
      have hzw7_ := hb7.size
      replace FN := Nat.le_trans FN hzw7_
      clear hS hb7
      have X0 := Lib.hid (hrow7.sli hg7)
      clear hrow7 hg7
      have hS := Sm.alloc w7_ (.cells #[.int .i64 c0, .int .i64 f0, .slice (some ⟨g7, 0, none⟩) xs0.length xs0.length] 39)
      replace BX0 := Lib.hid (BX0.out.sm hS (by omega))
      replace RS := Lib.hid (RS.out.sm hS (by omega))
      replace CS := Lib.hid (CS.out.sm hS (by omega))
      replace X0 := Lib.hid (X0.out.sm hS (by omega))
      have CX0 := Lib.hid (FluxAt.new w7_ c0 f0 (some ⟨g7, 0, none⟩) xs0.length xs0.length 39 w7_.heap.size rfl)
      replace FB := Lib.hid (below_new FB.out FN (.cells #[.int .i64 c0, .int .i64 f0, .slice (some ⟨g7, 0, none⟩) xs0.length xs0.length] 39))
      have hq8 : (w7_.alloc (.cells #[.int .i64 c0, .int .i64 f0, .slice (some ⟨g7, 0, none⟩) xs0.length xs0.length] 39)).heap.size = w7_.heap.size + 1 := by simp
      replace FN : w.heap.size ≤ (w7_.alloc (.cells #[.int .i64 c0, .int .i64 f0, .slice (some ⟨g7, 0, none⟩) xs0.length xs0.length] 39)).heap.size := by omega
      clear hS
      go_wp2_with fail
      refine (TO1.out _ FB.out).mono ?_
      rintro e w9_ ⟨g9, rfl, hrow9, hg9, hb9⟩
      have hS := Sm.of_below hb9
      replace BX0 := Lib.hid (BX0.out.sm hS (by omega))
      replace RS := Lib.hid (RS.out.sm hS (by omega))
      replace CS := Lib.hid (CS.out.sm hS (by omega))
      replace X0 := Lib.hid (X0.out.sm hS (by omega))
      replace CX0 := Lib.hid (CX0.out.sm hS (by omega))
      replace FB := Lib.hid (below_step FB.out FN hb9)
      have hzw9_ := hb9.size
      replace FN := Nat.le_trans FN hzw9_
      clear hS hb9
      have X1 := Lib.hid (hrow9.sli hg9)
      clear hrow9 hg9
      obtain ⟨xCX00, xCX01, xCX02⟩ := CX0.out
      go_wp2_with fail
      refine (IM.out _ _ _ X0.out.sl X1.out.sl).mono ?_
      rintro e w10_ ⟨s10, d10, rfl, hso10, hb10⟩
      clear xCX00 xCX01 xCX02
      have hS := Sm.of_below hb10
      replace BX0 := Lib.hid (BX0.out.sm hS (by omega))
      replace RS := Lib.hid (RS.out.sm hS (by omega))
      replace CS := Lib.hid (CS.out.sm hS (by omega))
      replace X0 := Lib.hid (X0.out.sm hS (by omega))
      replace CX0 := Lib.hid (CX0.out.sm hS (by omega))
      replace X1 := Lib.hid (X1.out.sm hS (by omega))
      replace FB := Lib.hid (below_step FB.out FN hb10)
      have hzw10_ := hb10.size
      replace FN := Nat.le_trans FN hzw10_
      clear hS hb10
      have RG := Lib.hid hso10.within
      clear hso10
      have hS := Sm.alloc w10_ (.cells #[.int .i64 rc, .int .i64 rf, .slice s10 rs.length d10] 39)
      replace BX0 := Lib.hid (BX0.out.sm hS (by omega))
      replace RS := Lib.hid (RS.out.sm hS (by omega))
      replace CS := Lib.hid (CS.out.sm hS (by omega))
      replace X0 := Lib.hid (X0.out.sm hS (by omega))
      replace CX0 := Lib.hid (CX0.out.sm hS (by omega))
      replace X1 := Lib.hid (X1.out.sm hS (by omega))
      replace RG := Lib.hid (RG.out.sm hS (by omega))
      have CG := Lib.hid (FluxAt.new w10_ rc rf s10 rs.length d10 39 w10_.heap.size rfl)
      replace FB := Lib.hid (below_new FB.out FN (.cells #[.int .i64 rc, .int .i64 rf, .slice s10 rs.length d10] 39))
      have hq11 : (w10_.alloc (.cells #[.int .i64 rc, .int .i64 rf, .slice s10 rs.length d10] 39)).heap.size = w10_.heap.size + 1 := by simp
      replace FN : w.heap.size ≤ (w10_.alloc (.cells #[.int .i64 rc, .int .i64 rf, .slice s10 rs.length d10] 39)).heap.size := by omega
      clear hS
      obtain ⟨xCG0, xCG1, xCG2⟩ := CG.out
      obtain ⟨xCS0, xCS1, xCS2⟩ := CS.out
      go_wp2_with fail
      refine (EQ.out _ _ _ _ _ RG.out.sl RS.out.sl).mono ?_
      rintro e w12_ ⟨rfl, hb12⟩
      clear xCG0 xCG1 xCG2
      clear xCS0 xCS1 xCS2
      have hS := Sm.of_below hb12
      replace BX0 := Lib.hid (BX0.out.sm hS (by omega))
      replace RS := Lib.hid (RS.out.sm hS (by omega))
      replace CS := Lib.hid (CS.out.sm hS (by omega))
      replace X0 := Lib.hid (X0.out.sm hS (by omega))
      replace CX0 := Lib.hid (CX0.out.sm hS (by omega))
      replace X1 := Lib.hid (X1.out.sm hS (by omega))
      replace RG := Lib.hid (RG.out.sm hS (by omega))
      replace CG := Lib.hid (CG.out.sm hS (by omega))
      replace FB := Lib.hid (below_step FB.out FN hb12)
      have hzw12_ := hb12.size
      replace FN := Nat.le_trans FN hzw12_
      clear hS hb12
      have hlCX0 := CX0.out.lt
      have hlBX0 := BX0.out.lt
      obtain ⟨xCX00, xCX01, xCX02⟩ := CX0.out
      obtain ⟨xBX00, xBX01, xBX02⟩ := BX0.out
      have KS := Lib.hid (fun w' (hb : Below w12_.heap.size w12_ w') => (show (w'.cell? ⟨w7_.heap.size, 0, none⟩ = some (.int .i64 c0) ∧ w'.cell? ⟨w7_.heap.size, 1, none⟩ = some (.int .i64 f0) ∧ w'.cell? ⟨w7_.heap.size, 2, none⟩ = some (.slice (some ⟨g7, 0, none⟩) xs0.length xs0.length)) ∧ (w'.cell? ⟨w.heap.size, 0, none⟩ = some (.int .i64 c0) ∧ w'.cell? ⟨w.heap.size, 1, none⟩ = some (.int .i64 f0) ∧ w'.cell? ⟨w.heap.size, 2, none⟩ = some (.slice s0 xs0.length cap0)) from ⟨CX0.out.below hb hlCX0, BX0.out.below hb hlBX0⟩))
      have hks : (w12_.cell? ⟨w7_.heap.size, 0, none⟩ = some (.int .i64 c0) ∧ w12_.cell? ⟨w7_.heap.size, 1, none⟩ = some (.int .i64 f0) ∧ w12_.cell? ⟨w7_.heap.size, 2, none⟩ = some (.slice (some ⟨g7, 0, none⟩) xs0.length xs0.length)) ∧ (w12_.cell? ⟨w.heap.size, 0, none⟩ = some (.int .i64 c0) ∧ w12_.cell? ⟨w.heap.size, 1, none⟩ = some (.int .i64 f0) ∧ w12_.cell? ⟨w.heap.size, 2, none⟩ = some (.slice s0 xs0.length cap0)) := KS.out _ (Below.refl _ _)
      have FBX := Lib.hid (fun w' (hb : Below w12_.heap.size w12_ w') => (show Below w.heap.size w w' from FB.out.trans (hb.mono FN)))
      have HC := Lib.hid (show Below w12_.heap.size w12_ w12_.drew from (Below.refl _ _).drew)
      replace RS := Lib.hid RS.out.drew
      replace X0 := Lib.hid X0.out.drew
      replace X1 := Lib.hid X1.out.drew
      replace RG := Lib.hid RG.out.drew
      go_wp2
      go_region_held3 (fun w' => (w'.cell? ⟨w7_.heap.size, 0, none⟩ = some (.int .i64 c0) ∧ w'.cell? ⟨w7_.heap.size, 1, none⟩ = some (.int .i64 f0) ∧ w'.cell? ⟨w7_.heap.size, 2, none⟩ = some (.slice (some ⟨g7, 0, none⟩) xs0.length xs0.length)) ∧ (w'.cell? ⟨w.heap.size, 0, none⟩ = some (.int .i64 c0) ∧ w'.cell? ⟨w.heap.size, 1, none⟩ = some (.int .i64 f0) ∧ w'.cell? ⟨w.heap.size, 2, none⟩ = some (.slice s0 xs0.length cap0)))
        (first | (with_reducible exact KS.out _ HC.out) | go_keep)
        (first
          | (go_at_call 22; ((with_reducible refine (TO0.out _ (FBX.out _ HC.out)).mono ?_); rintro e wt0 ⟨gt0, rfl, hrowt0, hgt0, hbt0⟩; (try (replace RS := Lib.hid (RS.out.sm (Sm.of_below hbt0) (by omega)))); (try (replace X0 := Lib.hid (X0.out.sm (Sm.of_below hbt0) (by omega)))); (try (replace X1 := Lib.hid (X1.out.sm (Sm.of_below hbt0) (by omega)))); (try (replace RG := Lib.hid (RG.out.sm (Sm.of_below hbt0) (by omega)))); (try (replace Y0 := Lib.hid (Y0.out.sm (Sm.of_below hbt0) (by omega)))); replace HC := Lib.hid (HC.out.trans (hbt0.mono HC.out.size)); have Y0 := Lib.hid (hrowt0.sli hgt0)))
          | (go_at_call 24; ((with_reducible refine (EX0.out _ _ _ _ _ X0.out.sl Y0.out.sl).mono ?_); rintro e w13_ ⟨rfl, hb13⟩; have hbf13 := HC.out.size; (try (replace RS := Lib.hid (RS.out.sm (Sm.of_below hb13) (by omega)))); (try (replace X0 := Lib.hid (X0.out.sm (Sm.of_below hb13) (by omega)))); (try (replace X1 := Lib.hid (X1.out.sm (Sm.of_below hb13) (by omega)))); (try (replace RG := Lib.hid (RG.out.sm (Sm.of_below hb13) (by omega)))); (try (replace Y0 := Lib.hid (Y0.out.sm (Sm.of_below hb13) (by omega)))); replace HC := Lib.hid (HC.out.trans (hb13.mono HC.out.size)); skip))
          | fail)
      all_goals
        replace CX0 := Lib.hid (CX0.out.below HC.out hlCX0)
        replace BX0 := Lib.hid (BX0.out.below HC.out hlBX0)
        replace CS := Lib.hid (CS.out.sm (Sm.of_below HC.out) (by omega))
        replace CG := Lib.hid (CG.out.sm (Sm.of_below HC.out) (by omega))
        replace FB := Lib.hid (FBX.out _ HC.out)
        have hzz13 := HC.out.size
        replace FN := Nat.le_trans FN hzz13
        clear hks KS HC FBX hlCX0 hlBX0
        clear hbf13
        clear xCX00 xCX01 xCX02
        clear xBX00 xBX01 xBX02
        clear hrowt0 hgt0
        clear hbt0
        clear Y0
        go_wp2_with fail
        refine (TO1.out _ FB.out).mono ?_
        rintro e w14_ ⟨g14, rfl, hrow14, hg14, hb14⟩
        have hS := Sm.of_below hb14
        replace BX0 := Lib.hid (BX0.out.sm hS (by omega))
        replace RS := Lib.hid (RS.out.sm hS (by omega))
        replace CS := Lib.hid (CS.out.sm hS (by omega))
        replace X0 := Lib.hid (X0.out.sm hS (by omega))
        replace CX0 := Lib.hid (CX0.out.sm hS (by omega))
        replace X1 := Lib.hid (X1.out.sm hS (by omega))
        replace RG := Lib.hid (RG.out.sm hS (by omega))
        replace CG := Lib.hid (CG.out.sm hS (by omega))
        replace FB := Lib.hid (below_step FB.out FN hb14)
        have hzw14_ := hb14.size
        replace FN := Nat.le_trans FN hzw14_
        clear hS hb14
        have Y1 := Lib.hid (hrow14.sli hg14)
        clear hrow14 hg14
        go_wp2_with fail
        refine (EX1.out _ _ _ _ _ X1.out.sl Y1.out.sl).mono ?_
        rintro e w15_ ⟨rfl, hb15⟩
        have hS := Sm.of_below hb15
        replace BX0 := Lib.hid (BX0.out.sm hS (by omega))
        replace RS := Lib.hid (RS.out.sm hS (by omega))
        replace CS := Lib.hid (CS.out.sm hS (by omega))
        replace X0 := Lib.hid (X0.out.sm hS (by omega))
        replace CX0 := Lib.hid (CX0.out.sm hS (by omega))
        replace X1 := Lib.hid (X1.out.sm hS (by omega))
        replace RG := Lib.hid (RG.out.sm hS (by omega))
        replace CG := Lib.hid (CG.out.sm hS (by omega))
        replace Y1 := Lib.hid (Y1.out.sm hS (by omega))
        replace FB := Lib.hid (below_step FB.out FN hb15)
        have hzw15_ := hb15.size
        replace FN := Nat.le_trans FN hzw15_
        clear hS hb15
        clear Y1
        obtain ⟨xCX00, xCX01, xCX02⟩ := CX0.out
        go_wp2_with fail
        refine (MX0.out _ (w5_.alloc (.cells #[.int .i64 rc, .int .i64 rf, .slice s5 rs.length d5] 39)).heap.size w7_.heap.size _ (by omega) (X0.out.mono (by omega) (by omega))).mono ?_
        rintro e w16_ ⟨rfl, hmr16, hmb16, hms16⟩
        clear xCX00 xCX01 xCX02
        clear X0
        replace BX0 := Lib.hid (BX0.out.sm hms16 (by omega))
        replace RS := Lib.hid (RS.out.sm hms16 (by omega))
        replace CS := Lib.hid (CS.out.sm hms16 (by omega))
        replace CX0 := Lib.hid (CX0.out.sm hms16 (by omega))
        replace X1 := Lib.hid (X1.out.sm hms16 (by omega))
        replace RG := Lib.hid (RG.out.sm hms16 (by omega))
        replace CG := Lib.hid (CG.out.sm hms16 (by omega))
        replace FB := Lib.hid (FB.out.trans (hmb16 _ (by omega) FN))
        have hzm16 := hms16.size
        replace FN := Nat.le_trans FN hzm16
        clear hmb16 hms16 hmr16
        go_wp2_with fail
        refine (MX1.out _ (w7_.alloc (.cells #[.int .i64 c0, .int .i64 f0, .slice (some ⟨g7, 0, none⟩) xs0.length xs0.length] 39)).heap.size w9_.heap.size _ (by omega) (X1.out.mono (by omega) (by omega))).mono ?_
        rintro e w17_ ⟨rfl, hmr17, hmb17, hms17⟩
        clear X1
        replace BX0 := Lib.hid (BX0.out.sm hms17 (by omega))
        replace RS := Lib.hid (RS.out.sm hms17 (by omega))
        replace CS := Lib.hid (CS.out.sm hms17 (by omega))
        replace CX0 := Lib.hid (CX0.out.sm hms17 (by omega))
        replace RG := Lib.hid (RG.out.sm hms17 (by omega))
        replace CG := Lib.hid (CG.out.sm hms17 (by omega))
        replace FB := Lib.hid (FB.out.trans (hmb17 _ (by omega) FN))
        have hzm17 := hms17.size
        replace FN := Nat.le_trans FN hzm17
        clear hmb17 hms17 hmr17
        obtain ⟨xCG0, xCG1, xCG2⟩ := CG.out
        obtain ⟨xCS0, xCS1, xCS2⟩ := CS.out
        go_wp2_with fail
        refine (EQ.out _ _ _ _ _ RG.out.sl RS.out.sl).mono ?_
        rintro e w18_ ⟨rfl, hb18⟩
        clear xCG0 xCG1 xCG2
        clear xCS0 xCS1 xCS2
        have hS := Sm.of_below hb18
        replace BX0 := Lib.hid (BX0.out.sm hS (by omega))
        replace RS := Lib.hid (RS.out.sm hS (by omega))
        replace CS := Lib.hid (CS.out.sm hS (by omega))
        replace CX0 := Lib.hid (CX0.out.sm hS (by omega))
        replace RG := Lib.hid (RG.out.sm hS (by omega))
        replace CG := Lib.hid (CG.out.sm hS (by omega))
        replace FB := Lib.hid (below_step FB.out FN hb18)
        have hzw18_ := hb18.size
        replace FN := Nat.le_trans FN hzw18_
        clear hS hb18
        obtain ⟨xCG0, xCG1, xCG2⟩ := CG.out
        go_wp2_with fail
        refine (MK.out _ _ w9_.heap.size w10_.heap.size _ (by omega) (RG.out.mono (by omega) (by omega))).mono ?_
        rintro e w19_ ⟨rfl, hmr19, hmb19, hms19⟩
        clear xCG0 xCG1 xCG2
        clear RG
        replace BX0 := Lib.hid (BX0.out.sm hms19 (by omega))
        replace RS := Lib.hid (RS.out.sm hms19 (by omega))
        replace CS := Lib.hid (CS.out.sm hms19 (by omega))
        replace CX0 := Lib.hid (CX0.out.sm hms19 (by omega))
        replace CG := Lib.hid (CG.out.sm hms19 (by omega))
        replace FB := Lib.hid (FB.out.trans (hmb19 _ (by omega) FN))
        have hzm19 := hms19.size
        replace FN := Nat.le_trans FN hzm19
        have RM := Lib.hid hmr19
        clear hmb19 hms19 hmr19
        obtain ⟨xCG0, xCG1, xCG2⟩ := CG.out
        go_wp2_with fail
        refine (HD.out _ _ _ RM.out.sl).mono ?_
        rintro e w20_ ⟨rfl, hb20⟩
        clear xCG0 xCG1 xCG2
        have hS := Sm.of_below hb20
        replace BX0 := Lib.hid (BX0.out.sm hS (by omega))
        replace RS := Lib.hid (RS.out.sm hS (by omega))
        replace CS := Lib.hid (CS.out.sm hS (by omega))
        replace CX0 := Lib.hid (CX0.out.sm hS (by omega))
        replace CG := Lib.hid (CG.out.sm hS (by omega))
        replace RM := Lib.hid (RM.out.sm hS (by omega))
        replace FB := Lib.hid (below_step FB.out FN hb20)
        have hzw20_ := hb20.size
        replace FN := Nat.le_trans FN hzw20_
        clear hS hb20
        obtain ⟨xBX00, xBX01, xBX02⟩ := BX0.out
        go_wp2_with fail
        refine (TO0.out _ FB.out).mono ?_
        rintro e w21_ ⟨g21, rfl, hrow21, hg21, hb21⟩
        clear xBX00 xBX01 xBX02
        have hS := Sm.of_below hb21
        replace BX0 := Lib.hid (BX0.out.sm hS (by omega))
        replace RS := Lib.hid (RS.out.sm hS (by omega))
        replace CS := Lib.hid (CS.out.sm hS (by omega))
        replace CX0 := Lib.hid (CX0.out.sm hS (by omega))
        replace CG := Lib.hid (CG.out.sm hS (by omega))
        replace RM := Lib.hid (RM.out.sm hS (by omega))
        replace FB := Lib.hid (below_step FB.out FN hb21)
        have hzw21_ := hb21.size
        replace FN := Nat.le_trans FN hzw21_
        clear hS hb21
        have V0 := Lib.hid (hrow21.sli hg21)
        clear hrow21 hg21
        go_wp2_with fail
        refine (TO1.out _ FB.out).mono ?_
        rintro e w22_ ⟨g22, rfl, hrow22, hg22, hb22⟩
        have hS := Sm.of_below hb22
        replace BX0 := Lib.hid (BX0.out.sm hS (by omega))
        replace RS := Lib.hid (RS.out.sm hS (by omega))
        replace CS := Lib.hid (CS.out.sm hS (by omega))
        replace CX0 := Lib.hid (CX0.out.sm hS (by omega))
        replace CG := Lib.hid (CG.out.sm hS (by omega))
        replace RM := Lib.hid (RM.out.sm hS (by omega))
        replace V0 := Lib.hid (V0.out.sm hS (by omega))
        replace FB := Lib.hid (below_step FB.out FN hb22)
        have hzw22_ := hb22.size
        replace FN := Nat.le_trans FN hzw22_
        clear hS hb22
        have V1 := Lib.hid (hrow22.sli hg22)
        clear hrow22 hg22
        go_wp2_with fail
        refine (IM.out _ _ _ V0.out.sl V1.out.sl).mono ?_
        rintro e w23_ ⟨s23, d23, rfl, hso23, hb23⟩
        have hS := Sm.of_below hb23
        replace BX0 := Lib.hid (BX0.out.sm hS (by omega))
        replace RS := Lib.hid (RS.out.sm hS (by omega))
        replace CS := Lib.hid (CS.out.sm hS (by omega))
        replace CX0 := Lib.hid (CX0.out.sm hS (by omega))
        replace CG := Lib.hid (CG.out.sm hS (by omega))
        replace RM := Lib.hid (RM.out.sm hS (by omega))
        replace V0 := Lib.hid (V0.out.sm hS (by omega))
        replace V1 := Lib.hid (V1.out.sm hS (by omega))
        replace FB := Lib.hid (below_step FB.out FN hb23)
        have hzw23_ := hb23.size
        replace FN := Nat.le_trans FN hzw23_
        clear hS hb23
        have RH := Lib.hid hso23.within
        clear hso23
        clear V0
        clear V1
        have hS := Sm.alloc w23_ (.cells #[.int .i64 rc, .int .i64 rf, .slice s23 rs.length d23] 39)
        replace BX0 := Lib.hid (BX0.out.sm hS (by omega))
        replace RS := Lib.hid (RS.out.sm hS (by omega))
        replace CS := Lib.hid (CS.out.sm hS (by omega))
        replace CX0 := Lib.hid (CX0.out.sm hS (by omega))
        replace CG := Lib.hid (CG.out.sm hS (by omega))
        replace RM := Lib.hid (RM.out.sm hS (by omega))
        replace RH := Lib.hid (RH.out.sm hS (by omega))
        have CH := Lib.hid (FluxAt.new w23_ rc rf s23 rs.length d23 39 w23_.heap.size rfl)
        replace FB := Lib.hid (below_new FB.out FN (.cells #[.int .i64 rc, .int .i64 rf, .slice s23 rs.length d23] 39))
        have hq24 : (w23_.alloc (.cells #[.int .i64 rc, .int .i64 rf, .slice s23 rs.length d23] 39)).heap.size = w23_.heap.size + 1 := by simp
        replace FN : w.heap.size ≤ (w23_.alloc (.cells #[.int .i64 rc, .int .i64 rf, .slice s23 rs.length d23] 39)).heap.size := by omega
        clear hS
        obtain ⟨xCH0, xCH1, xCH2⟩ := CH.out
        obtain ⟨xCS0, xCS1, xCS2⟩ := CS.out
        go_wp2_with fail
        refine (EQ.out _ _ _ _ _ RH.out.sl RS.out.sl).mono ?_
        rintro e w25_ ⟨rfl, hb25⟩
        clear xCH0 xCH1 xCH2
        clear xCS0 xCS1 xCS2
        have hS := Sm.of_below hb25
        replace BX0 := Lib.hid (BX0.out.sm hS (by omega))
        replace RS := Lib.hid (RS.out.sm hS (by omega))
        replace CS := Lib.hid (CS.out.sm hS (by omega))
        replace CX0 := Lib.hid (CX0.out.sm hS (by omega))
        replace CG := Lib.hid (CG.out.sm hS (by omega))
        replace RM := Lib.hid (RM.out.sm hS (by omega))
        replace RH := Lib.hid (RH.out.sm hS (by omega))
        replace CH := Lib.hid (CH.out.sm hS (by omega))
        replace FB := Lib.hid (below_step FB.out FN hb25)
        have hzw25_ := hb25.size
        replace FN := Nat.le_trans FN hzw25_
        clear hS hb25
        obtain ⟨xCG0, xCG1, xCG2⟩ := CG.out
        go_wp2_with fail
        refine (HD.out _ _ _ RM.out.sl).mono ?_
        rintro e w26_ ⟨rfl, hb26⟩
        clear xCG0 xCG1 xCG2
        have hS := Sm.of_below hb26
        replace BX0 := Lib.hid (BX0.out.sm hS (by omega))
        replace RS := Lib.hid (RS.out.sm hS (by omega))
        replace CS := Lib.hid (CS.out.sm hS (by omega))
        replace CX0 := Lib.hid (CX0.out.sm hS (by omega))
        replace CG := Lib.hid (CG.out.sm hS (by omega))
        replace RM := Lib.hid (RM.out.sm hS (by omega))
        replace RH := Lib.hid (RH.out.sm hS (by omega))
        replace CH := Lib.hid (CH.out.sm hS (by omega))
        replace FB := Lib.hid (below_step FB.out FN hb26)
        have hzw26_ := hb26.size
        replace FN := Nat.le_trans FN hzw26_
        clear hS hb26
        go_wp2
        go_ret
        exact ⟨rfl, FB.out⟩
end Go.Proofs.Ytgmnaikgjfbgkaa.fnExactDropChanges
