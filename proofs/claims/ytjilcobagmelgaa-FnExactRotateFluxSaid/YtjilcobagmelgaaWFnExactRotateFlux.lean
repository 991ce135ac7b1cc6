/- FnExactRotateFlux: the law's walk. -/
import Derived.Test.YtjilcobagmelgaaSm
import Derived.Test.YtjilcobagmelgaaOpenFlux
import Derived.Test.YtjilcobagmelgaaBoxes
import Derived.Test.YtjilcobagmelgaaRotAny
import Derived.Test.YtjilcobagmelgaaSpecRotFlux
namespace Go.Proofs.Ytjilcobagmelgaa.fnExactRotateFlux
open Go.RowKit
set_option linter.unusedVariables false
set_option maxRecDepth 20000 in
set_option maxHeartbeats 8000000 in
theorem walk (c0 f0 : Int) (s0 : Option Addr) (xs0 : List Int) (cap0 : Nat) (a1 : Int) (w : World) (w0 : FluxArg w s0 xs0) (w1 : (Lit.int .i64 a1).wf = true) :
    Calls Try.prog 3 #[.agg #[.int .i64 c0, .int .i64 f0, .slice s0 xs0.length cap0], .int .i64 a1] w fun e w' => e = .returned (.bool true) ∧ Below w.heap.size w w' := by
  obtain ⟨hm0, hsl0⟩ := w0
  by_cases hk0 : xs0.length ≤ 1048576
  case neg =>
    have SN0 := Lib.hid (fun w' => szFlux_no c0 f0 s0 xs0.length cap0 1048576 w' (by omega) hm0 (by omega))
    clear hsl0
    go_enter Try.func3, Try.ntmps3
    have FB := Lib.hid (show Below w.heap.size w w from Below.refl _ _)
    have FN : w.heap.size ≤ w.heap.size := Nat.le_refl _
    have hS := Sm.alloc w (.cells #[.int .i64 c0, .int .i64 f0, .slice s0 xs0.length cap0] 24)
    have BX0 := Lib.hid (FluxAt.new w c0 f0 s0 xs0.length cap0 24 w.heap.size rfl)
    replace FB := Lib.hid (below_new FB.out FN (.cells #[.int .i64 c0, .int .i64 f0, .slice s0 xs0.length cap0] 24))
    have hq1 : (w.alloc (.cells #[.int .i64 c0, .int .i64 f0, .slice s0 xs0.length cap0] 24)).heap.size = w.heap.size + 1 := by simp
    replace FN : w.heap.size ≤ (w.alloc (.cells #[.int .i64 c0, .int .i64 f0, .slice s0 xs0.length cap0] 24)).heap.size := by omega
    clear hS
    obtain ⟨xBX00, xBX01, xBX02⟩ := BX0.out
    go_wp2_with fail
    refine (SN0.out _).mono ?_
    rintro e w2_ ⟨rfl, hb2⟩
    clear xBX00 xBX01 xBX02
    have hS := Sm.of_below hb2
    replace BX0 := Lib.hid (BX0.out.sm hS (by omega))
    replace FB := Lib.hid (below_step FB.out FN hb2)
    have hzw2_ := hb2.size
    replace FN := Nat.le_trans FN hzw2_
    clear hS hb2
    go_wp2
    go_ret
    exact ⟨rfl, FB.out⟩
  case pos =>
    have sz0 := fun w' => szFlux_yes c0 f0 s0 xs0.length cap0 1048576 w' (by omega) hk0
    obtain ⟨lf0, hlf0⟩ : ∃ m, 1048576 - xs0.length = m := ⟨_, rfl⟩
    rw [hlf0] at sz0
    have hlfb0 : ¬ ((lf0 : Int) < 0) := by omega
    have hlfc0 : lf0 ≤ 1048576 := by omega
    have SZ0 := Lib.hid sz0; clear sz0
    have hn0 : xs0.length ≤ 1048576 := by omega
    have TO0 := Lib.hid (fun w' (hb : Below w.heap.size w w') => toFlux_any c0 f0 s0 xs0 cap0 w' hn0 (hsl0.below hb (Nat.le_refl _)))
    have EX0 := Lib.hid (fun x d y d' w' (h1 : SlA w' x xs0) (h2 : SlA w' y xs0) => (eqFlux_any c0 f0 x xs0 d c0 f0 y xs0 d' w' (by omega) (by omega) h1 h2).mono (fun e w'' ⟨he, hw⟩ => (show e = Ending.returned (.bool true) ∧ _ from ⟨by rw [he]; simp [fluxEq], hw⟩)))
    have hsp := fun g0 w' (h0 : SlA w' (some ⟨g0, 0, none⟩) xs0) => specRotateFlux_any c0 f0 (some ⟨g0, 0, none⟩) xs0.length xs0 a1 hn0 w' h0
    have him := fun g0 w' (h0 : SlA w' (some ⟨g0, 0, none⟩) xs0) => rotateFlux_any c0 f0 (some ⟨g0, 0, none⟩) xs0.length xs0 a1 (Nat.le_refl _) hn0 w' h0
    have hR := rotVal_len c0 f0 xs0 a1 hn0
    generalize rotVal c0 f0 xs0 a1 = r at hsp him hR
    obtain ⟨rc, rf, rs, code⟩ := r
    dsimp only at hR
    replace hsp := fun g0 w' (h0 : SlA w' (some ⟨g0, 0, none⟩) xs0) => (hsp g0 w' h0).mono (fun e w'' h => (show ∃ a cap, e = Ending.returned (.tuple #[.agg #[.int .i64 rc, .int .i64 rf, .slice a rs.length cap], .int .i64 code]) ∧ SlO w'' w'.heap.size a rs ∧ Below w'.heap.size w' w'' from h))
    replace him := fun g0 w' (h0 : SlA w' (some ⟨g0, 0, none⟩) xs0) => (him g0 w' h0).mono (fun e w'' h => (show ∃ a cap, e = Ending.returned (.tuple #[.agg #[.int .i64 rc, .int .i64 rf, .slice a rs.length cap], .int .i64 code]) ∧ SlO w'' w'.heap.size a rs ∧ Below w'.heap.size w' w'' from h))
    have hcc : (code != code) = false := by simp
    have hc1 : (code == code) = true := by simp
    have heq := fun x d y d' w' (h1 : SlA w' x rs) (h2 : SlA w' y rs) => eqFlux_any rc rf x rs d rc rf y rs d' w' (by omega) (by omega) h1 h2
    have heq1 : fluxEq rc rf rs rc rf rs = true := by simp [fluxEq]
    rw [heq1] at heq
    have hmk := fun x d B C w' hC h => markFlux_sm rc rf x rs d 1 B C w' (by omega) (by omega) hC h
    have hhd := fun x d w' (h : SlA w' x (fromK ((1 : Nat) : Int) rs.length)) => heldFlux_any rc rf x rs.length d 1 w' (by omega) (by omega) h
    unfold Marked at hmk
    have hk1 : 1 + rs.length ≤ 1048577 := by omega
    obtain ⟨kr, hkr⟩ : ∃ m, 1 + rs.length = m := ⟨_, rfl⟩
    rw [hkr] at hmk hhd hk1
    have hkk : ((kr : Int) != (kr : Int)) = false := by simp
    have hkr0 : ¬ ((kr : Int) < 0) := by omega
    have hmx0 := fun g B C w' hC h => markFlux_sm c0 f0 (some ⟨g, 0, none⟩) xs0 xs0.length 1 B C w' (by omega) (by omega) hC h
    unfold Marked at hmx0
    have hxb0 : 1 + xs0.length ≤ 4194304 := by omega
    obtain ⟨kx0, hkx0⟩ : ∃ m, 1 + xs0.length = m := ⟨_, rfl⟩
    rw [hkx0] at hmx0 hxb0
    have hkxz0 : ¬ ((kx0 : Int) < 0) := by omega
    have MX0 := Lib.hid hmx0; clear hmx0
    have EQ := Lib.hid heq; have MK := Lib.hid hmk; have HD := Lib.hid hhd; clear heq hmk hhd
    have SP := Lib.hid hsp; have IM := Lib.hid him; clear hsp him hsl0
    go_enter Try.func3, Try.ntmps3
    have FB := Lib.hid (show Below w.heap.size w w from Below.refl _ _)
    have FN : w.heap.size ≤ w.heap.size := Nat.le_refl _
    have hS := Sm.alloc w (.cells #[.int .i64 c0, .int .i64 f0, .slice s0 xs0.length cap0] 24)
    have BX0 := Lib.hid (FluxAt.new w c0 f0 s0 xs0.length cap0 24 w.heap.size rfl)
    replace FB := Lib.hid (below_new FB.out FN (.cells #[.int .i64 c0, .int .i64 f0, .slice s0 xs0.length cap0] 24))
    have hq1 : (w.alloc (.cells #[.int .i64 c0, .int .i64 f0, .slice s0 xs0.length cap0] 24)).heap.size = w.heap.size + 1 := by simp
    replace FN : w.heap.size ≤ (w.alloc (.cells #[.int .i64 c0, .int .i64 f0, .slice s0 xs0.length cap0] 24)).heap.size := by omega
    clear hS
    obtain ⟨xBX00, xBX01, xBX02⟩ := BX0.out
    go_wp2_with fail
    refine (SZ0.out _).mono ?_
    rintro e w2_ ⟨rfl, hb2⟩
    clear xBX00 xBX01 xBX02
    have hS := Sm.of_below hb2
    replace BX0 := Lib.hid (BX0.out.sm hS (by omega))
    replace FB := Lib.hid (below_step FB.out FN hb2)
    have hzw2_ := hb2.size
    replace FN := Nat.le_trans FN hzw2_
    clear hS hb2
    obtain ⟨xBX00, xBX01, xBX02⟩ := BX0.out
    go_wp2_with fail
    refine (TO0.out _ FB.out).mono ?_
    rintro e w3_ ⟨g3, rfl, hrow3, hg3, hb3⟩
    clear xBX00 xBX01 xBX02
    have hS := Sm.of_below hb3
    replace BX0 := Lib.hid (BX0.out.sm hS (by omega))
    replace FB := Lib.hid (below_step FB.out FN hb3)
    have hzw3_ := hb3.size
    replace FN := Nat.le_trans FN hzw3_
    clear hS hb3
    have R0 := Lib.hid (hrow3.sli hg3)
    clear hrow3 hg3
    go_wp2_with fail
    refine (SP.out _ _ R0.out.sl).mono ?_
    rintro e w4_ ⟨s4, d4, rfl, hso4, hb4⟩
    have hS := Sm.of_below hb4
    replace BX0 := Lib.hid (BX0.out.sm hS (by omega))
    replace R0 := Lib.hid (R0.out.sm hS (by omega))
    replace FB := Lib.hid (below_step FB.out FN hb4)
    have hzw4_ := hb4.size
    replace FN := Nat.le_trans FN hzw4_
    clear hS hb4
    have RS := Lib.hid hso4.within
    clear hso4
    have hS := Sm.alloc w4_ (.cells #[.int .i64 rc, .int .i64 rf, .slice s4 rs.length d4] 26)
    replace BX0 := Lib.hid (BX0.out.sm hS (by omega))
    replace R0 := Lib.hid (R0.out.sm hS (by omega))
    replace RS := Lib.hid (RS.out.sm hS (by omega))
    have CS := Lib.hid (FluxAt.new w4_ rc rf s4 rs.length d4 26 w4_.heap.size rfl)
    replace FB := Lib.hid (below_new FB.out FN (.cells #[.int .i64 rc, .int .i64 rf, .slice s4 rs.length d4] 26))
    have hq5 : (w4_.alloc (.cells #[.int .i64 rc, .int .i64 rf, .slice s4 rs.length d4] 26)).heap.size = w4_.heap.size + 1 := by simp
    replace FN : w.heap.size ≤ (w4_.alloc (.cells #[.int .i64 rc, .int .i64 rf, .slice s4 rs.length d4] 26)).heap.size := by omega
    clear hS
    clear R0
    obtain ⟨xBX00, xBX01, xBX02⟩ := BX0.out
    go_wp2_with fail
    refine (TO0.out _ FB.out).mono ?_
    rintro e w6_ ⟨g6, rfl, hrow6, hg6, hb6⟩
    clear xBX00 xBX01 xBX02
    have hS := Sm.of_below hb6
    replace BX0 := Lib.hid (BX0.out.sm hS (by omega))
    replace RS := Lib.hid (RS.out.sm hS (by omega))
    replace CS := Lib.hid (CS.out.sm hS (by omega))
    replace FB := Lib.hid (below_step FB.out FN hb6)
    have hzw6_ := hb6.size
    replace FN := Nat.le_trans FN hzw6_
    clear hS hb6
    have X0 := Lib.hid (hrow6.sli hg6)
    clear hrow6 hg6
    have hS := Sm.alloc w6_ (.cells #[.int .i64 c0, .int .i64 f0, .slice (some ⟨g6, 0, none⟩) xs0.length xs0.length] 26)
    replace BX0 := Lib.hid (BX0.out.sm hS (by omega))
    replace RS := Lib.hid (RS.out.sm hS (by omega))
    replace CS := Lib.hid (CS.out.sm hS (by omega))
    replace X0 := Lib.hid (X0.out.sm hS (by omega))
    have CX0 := Lib.hid (FluxAt.new w6_ c0 f0 (some ⟨g6, 0, none⟩) xs0.length xs0.length 26 w6_.heap.size rfl)
    replace FB := Lib.hid (below_new FB.out FN (.cells #[.int .i64 c0, .int .i64 f0, .slice (some ⟨g6, 0, none⟩) xs0.length xs0.length] 26))
    have hq7 : (w6_.alloc (.cells #[.int .i64 c0, .int .i64 f0, .slice (some ⟨g6, 0, none⟩) xs0.length xs0.length] 26)).heap.size = w6_.heap.size + 1 := by simp
    replace FN : w.heap.size ≤ (w6_.alloc (.cells #[.int .i64 c0, .int .i64 f0, .slice (some ⟨g6, 0, none⟩) xs0.length xs0.length] 26)).heap.size := by omega
    clear hS
    obtain ⟨xCX00, xCX01, xCX02⟩ := CX0.out
    go_wp2_with fail
    refine (IM.out _ _ X0.out.sl).mono ?_
    rintro e w8_ ⟨s8, d8, rfl, hso8, hb8⟩
    clear xCX00 xCX01 xCX02
    have hS := Sm.of_below hb8
    replace BX0 := Lib.hid (BX0.out.sm hS (by omega))
    replace RS := Lib.hid (RS.out.sm hS (by omega))
    replace CS := Lib.hid (CS.out.sm hS (by omega))
    replace X0 := Lib.hid (X0.out.sm hS (by omega))
    replace CX0 := Lib.hid (CX0.out.sm hS (by omega))
    replace FB := Lib.hid (below_step FB.out FN hb8)
    have hzw8_ := hb8.size
    replace FN := Nat.le_trans FN hzw8_
    clear hS hb8
    have RG := Lib.hid hso8.within
    clear hso8
    have hS := Sm.alloc w8_ (.cells #[.int .i64 rc, .int .i64 rf, .slice s8 rs.length d8] 26)
    replace BX0 := Lib.hid (BX0.out.sm hS (by omega))
    replace RS := Lib.hid (RS.out.sm hS (by omega))
    replace CS := Lib.hid (CS.out.sm hS (by omega))
    replace X0 := Lib.hid (X0.out.sm hS (by omega))
    replace CX0 := Lib.hid (CX0.out.sm hS (by omega))
    replace RG := Lib.hid (RG.out.sm hS (by omega))
    have CG := Lib.hid (FluxAt.new w8_ rc rf s8 rs.length d8 26 w8_.heap.size rfl)
    replace FB := Lib.hid (below_new FB.out FN (.cells #[.int .i64 rc, .int .i64 rf, .slice s8 rs.length d8] 26))
    have hq9 : (w8_.alloc (.cells #[.int .i64 rc, .int .i64 rf, .slice s8 rs.length d8] 26)).heap.size = w8_.heap.size + 1 := by simp
    replace FN : w.heap.size ≤ (w8_.alloc (.cells #[.int .i64 rc, .int .i64 rf, .slice s8 rs.length d8] 26)).heap.size := by omega
    clear hS
    obtain ⟨xCG0, xCG1, xCG2⟩ := CG.out
    obtain ⟨xCS0, xCS1, xCS2⟩ := CS.out
    go_wp2_with fail
    refine (EQ.out _ _ _ _ _ RG.out.sl RS.out.sl).mono ?_
    rintro e w10_ ⟨rfl, hb10⟩
    clear xCG0 xCG1 xCG2
    clear xCS0 xCS1 xCS2
    have hS := Sm.of_below hb10
    replace BX0 := Lib.hid (BX0.out.sm hS (by omega))
    replace RS := Lib.hid (RS.out.sm hS (by omega))
    replace CS := Lib.hid (CS.out.sm hS (by omega))
    replace X0 := Lib.hid (X0.out.sm hS (by omega))
    replace CX0 := Lib.hid (CX0.out.sm hS (by omega))
    replace RG := Lib.hid (RG.out.sm hS (by omega))
    replace CG := Lib.hid (CG.out.sm hS (by omega))
    replace FB := Lib.hid (below_step FB.out FN hb10)
    have hzw10_ := hb10.size
    replace FN := Nat.le_trans FN hzw10_
    clear hS hb10
    have hlCX0 := CX0.out.lt
    have hlBX0 := BX0.out.lt
    obtain ⟨xCX00, xCX01, xCX02⟩ := CX0.out
    obtain ⟨xBX00, xBX01, xBX02⟩ := BX0.out
    have KS := Lib.hid (fun w' (hb : Below w10_.heap.size w10_ w') => (show (w'.cell? ⟨w6_.heap.size, 0, none⟩ = some (.int .i64 c0) ∧ w'.cell? ⟨w6_.heap.size, 1, none⟩ = some (.int .i64 f0) ∧ w'.cell? ⟨w6_.heap.size, 2, none⟩ = some (.slice (some ⟨g6, 0, none⟩) xs0.length xs0.length)) ∧ (w'.cell? ⟨w.heap.size, 0, none⟩ = some (.int .i64 c0) ∧ w'.cell? ⟨w.heap.size, 1, none⟩ = some (.int .i64 f0) ∧ w'.cell? ⟨w.heap.size, 2, none⟩ = some (.slice s0 xs0.length cap0)) from ⟨CX0.out.below hb hlCX0, BX0.out.below hb hlBX0⟩))
    have hks : (w10_.cell? ⟨w6_.heap.size, 0, none⟩ = some (.int .i64 c0) ∧ w10_.cell? ⟨w6_.heap.size, 1, none⟩ = some (.int .i64 f0) ∧ w10_.cell? ⟨w6_.heap.size, 2, none⟩ = some (.slice (some ⟨g6, 0, none⟩) xs0.length xs0.length)) ∧ (w10_.cell? ⟨w.heap.size, 0, none⟩ = some (.int .i64 c0) ∧ w10_.cell? ⟨w.heap.size, 1, none⟩ = some (.int .i64 f0) ∧ w10_.cell? ⟨w.heap.size, 2, none⟩ = some (.slice s0 xs0.length cap0)) := KS.out _ (Below.refl _ _)
    have FBX := Lib.hid (fun w' (hb : Below w10_.heap.size w10_ w') => (show Below w.heap.size w w' from FB.out.trans (hb.mono FN)))
    have HC := Lib.hid (show Below w10_.heap.size w10_ w10_.drew from (Below.refl _ _).drew)
    replace RS := Lib.hid RS.out.drew
    replace X0 := Lib.hid X0.out.drew
    replace RG := Lib.hid RG.out.drew
    go_wp2
    go_region_held3 (fun w' => (w'.cell? ⟨w6_.heap.size, 0, none⟩ = some (.int .i64 c0) ∧ w'.cell? ⟨w6_.heap.size, 1, none⟩ = some (.int .i64 f0) ∧ w'.cell? ⟨w6_.heap.size, 2, none⟩ = some (.slice (some ⟨g6, 0, none⟩) xs0.length xs0.length)) ∧ (w'.cell? ⟨w.heap.size, 0, none⟩ = some (.int .i64 c0) ∧ w'.cell? ⟨w.heap.size, 1, none⟩ = some (.int .i64 f0) ∧ w'.cell? ⟨w.heap.size, 2, none⟩ = some (.slice s0 xs0.length cap0)))
      (first | (with_reducible exact KS.out _ HC.out) | (with_reducible exact KS.out _ (HC.out.alloc HC.out.size _)) | go_keep)
      (first
        | (go_at_call 6; ((with_reducible refine (TO0.out _ (FBX.out _ HC.out)).mono ?_); rintro e wt0 ⟨gt0, rfl, hrowt0, hgt0, hbt0⟩; (try (replace RS := Lib.hid (RS.out.sm (Sm.of_below hbt0) (by omega)))); (try (replace X0 := Lib.hid (X0.out.sm (Sm.of_below hbt0) (by omega)))); (try (replace RG := Lib.hid (RG.out.sm (Sm.of_below hbt0) (by omega)))); (try (replace Y0 := Lib.hid (Y0.out.sm (Sm.of_below hbt0) (by omega)))); replace HC := Lib.hid (HC.out.trans (hbt0.mono HC.out.size)); have Y0 := Lib.hid (hrowt0.sli hgt0)))
        | (go_at_call 8; ((with_reducible refine (EX0.out _ _ _ _ _ X0.out.sl Y0.out.sl).mono ?_); rintro e w11_ ⟨rfl, hb11⟩; have hbf11 := HC.out.size; (try (replace RS := Lib.hid (RS.out.sm (Sm.of_below hb11) (by omega)))); (try (replace X0 := Lib.hid (X0.out.sm (Sm.of_below hb11) (by omega)))); (try (replace RG := Lib.hid (RG.out.sm (Sm.of_below hb11) (by omega)))); (try (replace Y0 := Lib.hid (Y0.out.sm (Sm.of_below hb11) (by omega)))); replace HC := Lib.hid (HC.out.trans (hb11.mono HC.out.size)); skip))
        | fail)
    all_goals
      replace CX0 := Lib.hid (CX0.out.below HC.out hlCX0)
      replace BX0 := Lib.hid (BX0.out.below HC.out hlBX0)
      replace CS := Lib.hid (CS.out.sm (Sm.of_below HC.out) (by omega))
      replace CG := Lib.hid (CG.out.sm (Sm.of_below HC.out) (by omega))
      replace FB := Lib.hid (FBX.out _ HC.out)
      have hzz11 := HC.out.size
      replace FN := Nat.le_trans FN hzz11
      clear hks KS HC FBX hlCX0 hlBX0
      clear hbf11
      clear xCX00 xCX01 xCX02
      clear xBX00 xBX01 xBX02
      clear hrowt0 hgt0
      clear hbt0
      clear Y0
      obtain ⟨xCX00, xCX01, xCX02⟩ := CX0.out
      go_wp2_with fail
      refine (MX0.out _ (w4_.alloc (.cells #[.int .i64 rc, .int .i64 rf, .slice s4 rs.length d4] 26)).heap.size w6_.heap.size _ (by omega) (X0.out.mono (by omega) (by omega))).mono ?_
      rintro e w12_ ⟨rfl, hmr12, hmb12, hms12⟩
      clear xCX00 xCX01 xCX02
      clear X0
      replace BX0 := Lib.hid (BX0.out.sm hms12 (by omega))
      replace RS := Lib.hid (RS.out.sm hms12 (by omega))
      replace CS := Lib.hid (CS.out.sm hms12 (by omega))
      replace CX0 := Lib.hid (CX0.out.sm hms12 (by omega))
      replace RG := Lib.hid (RG.out.sm hms12 (by omega))
      replace CG := Lib.hid (CG.out.sm hms12 (by omega))
      replace FB := Lib.hid (FB.out.trans (hmb12 _ (by omega) FN))
      have hzm12 := hms12.size
      replace FN := Nat.le_trans FN hzm12
      clear hmb12 hms12 hmr12
      obtain ⟨xCG0, xCG1, xCG2⟩ := CG.out
      obtain ⟨xCS0, xCS1, xCS2⟩ := CS.out
      go_wp2_with fail
      refine (EQ.out _ _ _ _ _ RG.out.sl RS.out.sl).mono ?_
      rintro e w13_ ⟨rfl, hb13⟩
      clear xCG0 xCG1 xCG2
      clear xCS0 xCS1 xCS2
      have hS := Sm.of_below hb13
      replace BX0 := Lib.hid (BX0.out.sm hS (by omega))
      replace RS := Lib.hid (RS.out.sm hS (by omega))
      replace CS := Lib.hid (CS.out.sm hS (by omega))
      replace CX0 := Lib.hid (CX0.out.sm hS (by omega))
      replace RG := Lib.hid (RG.out.sm hS (by omega))
      replace CG := Lib.hid (CG.out.sm hS (by omega))
      replace FB := Lib.hid (below_step FB.out FN hb13)
      have hzw13_ := hb13.size
      replace FN := Nat.le_trans FN hzw13_
      clear hS hb13
      obtain ⟨xCG0, xCG1, xCG2⟩ := CG.out
      go_wp2_with fail
      refine (MK.out _ _ (w6_.alloc (.cells #[.int .i64 c0, .int .i64 f0, .slice (some ⟨g6, 0, none⟩) xs0.length xs0.length] 26)).heap.size w8_.heap.size _ (by omega) (RG.out.mono (by omega) (by omega))).mono ?_
      rintro e w14_ ⟨rfl, hmr14, hmb14, hms14⟩
      clear xCG0 xCG1 xCG2
      clear RG
      replace BX0 := Lib.hid (BX0.out.sm hms14 (by omega))
      replace RS := Lib.hid (RS.out.sm hms14 (by omega))
      replace CS := Lib.hid (CS.out.sm hms14 (by omega))
      replace CX0 := Lib.hid (CX0.out.sm hms14 (by omega))
      replace CG := Lib.hid (CG.out.sm hms14 (by omega))
      replace FB := Lib.hid (FB.out.trans (hmb14 _ (by omega) FN))
      have hzm14 := hms14.size
      replace FN := Nat.le_trans FN hzm14
      have RM := Lib.hid hmr14
      clear hmb14 hms14 hmr14
      obtain ⟨xCG0, xCG1, xCG2⟩ := CG.out
      go_wp2_with fail
      refine (HD.out _ _ _ RM.out.sl).mono ?_
      rintro e w15_ ⟨rfl, hb15⟩
      clear xCG0 xCG1 xCG2
      have hS := Sm.of_below hb15
      replace BX0 := Lib.hid (BX0.out.sm hS (by omega))
      replace RS := Lib.hid (RS.out.sm hS (by omega))
      replace CS := Lib.hid (CS.out.sm hS (by omega))
      replace CX0 := Lib.hid (CX0.out.sm hS (by omega))
      replace CG := Lib.hid (CG.out.sm hS (by omega))
      replace RM := Lib.hid (RM.out.sm hS (by omega))
      replace FB := Lib.hid (below_step FB.out FN hb15)
      have hzw15_ := hb15.size
      replace FN := Nat.le_trans FN hzw15_
      clear hS hb15
      obtain ⟨xBX00, xBX01, xBX02⟩ := BX0.out
      go_wp2_with fail
      refine (TO0.out _ FB.out).mono ?_
      rintro e w16_ ⟨g16, rfl, hrow16, hg16, hb16⟩
      clear xBX00 xBX01 xBX02
      have hS := Sm.of_below hb16
      replace BX0 := Lib.hid (BX0.out.sm hS (by omega))
      replace RS := Lib.hid (RS.out.sm hS (by omega))
      replace CS := Lib.hid (CS.out.sm hS (by omega))
      replace CX0 := Lib.hid (CX0.out.sm hS (by omega))
      replace CG := Lib.hid (CG.out.sm hS (by omega))
      replace RM := Lib.hid (RM.out.sm hS (by omega))
      replace FB := Lib.hid (below_step FB.out FN hb16)
      have hzw16_ := hb16.size
      replace FN := Nat.le_trans FN hzw16_
      clear hS hb16
      have V0 := Lib.hid (hrow16.sli hg16)
      clear hrow16 hg16
      go_wp2_with fail
      refine (IM.out _ _ V0.out.sl).mono ?_
      rintro e w17_ ⟨s17, d17, rfl, hso17, hb17⟩
      have hS := Sm.of_below hb17
      replace BX0 := Lib.hid (BX0.out.sm hS (by omega))
      replace RS := Lib.hid (RS.out.sm hS (by omega))
      replace CS := Lib.hid (CS.out.sm hS (by omega))
      replace CX0 := Lib.hid (CX0.out.sm hS (by omega))
      replace CG := Lib.hid (CG.out.sm hS (by omega))
      replace RM := Lib.hid (RM.out.sm hS (by omega))
      replace V0 := Lib.hid (V0.out.sm hS (by omega))
      replace FB := Lib.hid (below_step FB.out FN hb17)
      have hzw17_ := hb17.size
      replace FN := Nat.le_trans FN hzw17_
      clear hS hb17
      have RH := Lib.hid hso17.within
      clear hso17
      clear V0
      have hS := Sm.alloc w17_ (.cells #[.int .i64 rc, .int .i64 rf, .slice s17 rs.length d17] 26)
      replace BX0 := Lib.hid (BX0.out.sm hS (by omega))
      replace RS := Lib.hid (RS.out.sm hS (by omega))
      replace CS := Lib.hid (CS.out.sm hS (by omega))
      replace CX0 := Lib.hid (CX0.out.sm hS (by omega))
      replace CG := Lib.hid (CG.out.sm hS (by omega))
      replace RM := Lib.hid (RM.out.sm hS (by omega))
      replace RH := Lib.hid (RH.out.sm hS (by omega))
      have CH := Lib.hid (FluxAt.new w17_ rc rf s17 rs.length d17 26 w17_.heap.size rfl)
      replace FB := Lib.hid (below_new FB.out FN (.cells #[.int .i64 rc, .int .i64 rf, .slice s17 rs.length d17] 26))
      have hq18 : (w17_.alloc (.cells #[.int .i64 rc, .int .i64 rf, .slice s17 rs.length d17] 26)).heap.size = w17_.heap.size + 1 := by simp
      replace FN : w.heap.size ≤ (w17_.alloc (.cells #[.int .i64 rc, .int .i64 rf, .slice s17 rs.length d17] 26)).heap.size := by omega
      clear hS
      obtain ⟨xCH0, xCH1, xCH2⟩ := CH.out
      obtain ⟨xCS0, xCS1, xCS2⟩ := CS.out
      go_wp2_with fail
      refine (EQ.out _ _ _ _ _ RH.out.sl RS.out.sl).mono ?_
      rintro e w19_ ⟨rfl, hb19⟩
      clear xCH0 xCH1 xCH2
      clear xCS0 xCS1 xCS2
      have hS := Sm.of_below hb19
      replace BX0 := Lib.hid (BX0.out.sm hS (by omega))
      replace RS := Lib.hid (RS.out.sm hS (by omega))
      replace CS := Lib.hid (CS.out.sm hS (by omega))
      replace CX0 := Lib.hid (CX0.out.sm hS (by omega))
      replace CG := Lib.hid (CG.out.sm hS (by omega))
      replace RM := Lib.hid (RM.out.sm hS (by omega))
      replace RH := Lib.hid (RH.out.sm hS (by omega))
      replace CH := Lib.hid (CH.out.sm hS (by omega))
      replace FB := Lib.hid (below_step FB.out FN hb19)
      have hzw19_ := hb19.size
      replace FN := Nat.le_trans FN hzw19_
      clear hS hb19
      obtain ⟨xCG0, xCG1, xCG2⟩ := CG.out
      go_wp2_with fail
      refine (HD.out _ _ _ RM.out.sl).mono ?_
      rintro e w20_ ⟨rfl, hb20⟩
      clear xCG0 xCG1 xCG2
      have hS := Sm.of_below hb20
      replace BX0 := Lib.hid (BX0.out.sm hS (by omega))
      replace RS := Lib.hid (RS.out.sm hS (by omega))
      replace CS := Lib.hid (CS.out.sm hS (by omega))
      replace CX0 := Lib.hid (CX0.out.sm hS (by omega))
      replace CG := Lib.hid (CG.out.sm hS (by omega))
      replace RM := Lib.hid (RM.out.sm hS (by omega))
      replace RH := Lib.hid (RH.out.sm hS (by omega))
      replace CH := Lib.hid (CH.out.sm hS (by omega))
      replace FB := Lib.hid (below_step FB.out FN hb20)
      have hzw20_ := hb20.size
      replace FN := Nat.le_trans FN hzw20_
      clear hS hb20
      go_wp2
      go_ret
      exact ⟨rfl, FB.out⟩
end Go.Proofs.Ytjilcobagmelgaa.fnExactRotateFlux
