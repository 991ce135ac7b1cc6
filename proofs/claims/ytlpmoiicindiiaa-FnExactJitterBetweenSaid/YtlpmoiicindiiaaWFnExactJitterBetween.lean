/- FnExactJitterBetween: the law's walk. -/
import Derived.Test.YtlpmoiicindiiaaSm
import Derived.Test.YtlpmoiicindiiaaOpenFlux
import Derived.Test.YtlpmoiicindiiaaBoxes
import Derived.Test.YtlpmoiicindiiaaJitIm
import Derived.Test.YtlpmoiicindiiaaJitSp
namespace Go.Proofs.Ytlpmoiicindiiaa.fnExactJitterBetween
open Go.RowKit
set_option linter.unusedVariables false
set_option maxRecDepth 20000 in
set_option maxHeartbeats 8000000 in
theorem walk (c0 f0 : Int) (s0 : Option Addr) (xs0 : List Int) (cap0 : Nat) (c1 f1 : Int) (s1 : Option Addr) (xs1 : List Int) (cap1 : Nat) (w : World) (w0 : FluxArg w s0 xs0) (w1 : FluxArg w s1 xs1) :
    Calls Try.prog 3 #[.agg #[.int .i64 c0, .int .i64 f0, .slice s0 xs0.length cap0], .agg #[.int .i64 c1, .int .i64 f1, .slice s1 xs1.length cap1]] w fun e w' => e = .returned (.bool true) ∧ Below w.heap.size w w' := by
  obtain ⟨hm0, hsl0⟩ := w0
  obtain ⟨hm1, hsl1⟩ := w1
  by_cases hk0 : xs0.length ≤ 1048576
  case neg =>
    have SN0 := Lib.hid (fun w' => szFlux_no c0 f0 s0 xs0.length cap0 1048576 w' (by omega) hm0 (by omega))
    clear hsl0 hsl1
    go_enter Try.func3, Try.ntmps3
    have FB := Lib.hid (show Below w.heap.size w w from Below.refl _ _)
    have FN : w.heap.size ≤ w.heap.size := Nat.le_refl _
    have hS := Sm.alloc w (.cells #[.int .i64 c0, .int .i64 f0, .slice s0 xs0.length cap0] 24)
    have BX0 := Lib.hid (FluxAt.new w c0 f0 s0 xs0.length cap0 24 w.heap.size rfl)
    replace FB := Lib.hid (below_new FB.out FN (.cells #[.int .i64 c0, .int .i64 f0, .slice s0 xs0.length cap0] 24))
    have hq1 : (w.alloc (.cells #[.int .i64 c0, .int .i64 f0, .slice s0 xs0.length cap0] 24)).heap.size = w.heap.size + 1 := by simp
    replace FN : w.heap.size ≤ (w.alloc (.cells #[.int .i64 c0, .int .i64 f0, .slice s0 xs0.length cap0] 24)).heap.size := by omega
    clear hS
    have hS := Sm.alloc (w.alloc (.cells #[.int .i64 c0, .int .i64 f0, .slice s0 xs0.length cap0] 24)) (.cells #[.int .i64 c1, .int .i64 f1, .slice s1 xs1.length cap1] 24)
    replace BX0 := Lib.hid (BX0.out.sm hS (by omega))
    have BX1 := Lib.hid (FluxAt.new (w.alloc (.cells #[.int .i64 c0, .int .i64 f0, .slice s0 xs0.length cap0] 24)) c1 f1 s1 xs1.length cap1 24 (w.heap.size + 1) (by simp))
    replace FB := Lib.hid (below_new FB.out FN (.cells #[.int .i64 c1, .int .i64 f1, .slice s1 xs1.length cap1] 24))
    have hq2 : ((w.alloc (.cells #[.int .i64 c0, .int .i64 f0, .slice s0 xs0.length cap0] 24)).alloc (.cells #[.int .i64 c1, .int .i64 f1, .slice s1 xs1.length cap1] 24)).heap.size = (w.alloc (.cells #[.int .i64 c0, .int .i64 f0, .slice s0 xs0.length cap0] 24)).heap.size + 1 := by simp
    replace FN : w.heap.size ≤ ((w.alloc (.cells #[.int .i64 c0, .int .i64 f0, .slice s0 xs0.length cap0] 24)).alloc (.cells #[.int .i64 c1, .int .i64 f1, .slice s1 xs1.length cap1] 24)).heap.size := by omega
    clear hS
    obtain ⟨xBX00, xBX01, xBX02⟩ := BX0.out
    go_wp2_with fail
    refine (SN0.out _).mono ?_
    rintro e w3_ ⟨rfl, hb3⟩
    clear xBX00 xBX01 xBX02
    have hS := Sm.of_below hb3
    replace BX0 := Lib.hid (BX0.out.sm hS (by omega))
    replace BX1 := Lib.hid (BX1.out.sm hS (by omega))
    replace FB := Lib.hid (below_step FB.out FN hb3)
    have hzw3_ := hb3.size
    replace FN := Nat.le_trans FN hzw3_
    clear hS hb3
    go_wp2
    go_ret
    exact ⟨rfl, FB.out⟩
  case pos =>
    have sz0 := fun w' => szFlux_yes c0 f0 s0 xs0.length cap0 1048576 w' (by omega) hk0
    obtain ⟨lf0, hlf0⟩ : ∃ m, 1048576 - xs0.length = m := ⟨_, rfl⟩
    rw [hlf0] at sz0
    have hlfb0 : ¬ ((lf0 : Int) < 0) := by omega
    have hlfc0 : lf0 ≤ 1048576 := by omega
    have SZ0 := Lib.hid sz0; clear sz0
    by_cases hk1 : xs1.length ≤ lf0
    case neg =>
      have SN1 := Lib.hid (fun w' => szFlux_no c1 f1 s1 xs1.length cap1 lf0 w' (by omega) hm1 (by omega))
      clear hsl0 hsl1
      go_enter Try.func3, Try.ntmps3
      have FB := Lib.hid (show Below w.heap.size w w from Below.refl _ _)
      have FN : w.heap.size ≤ w.heap.size := Nat.le_refl _
      have hS := Sm.alloc w (.cells #[.int .i64 c0, .int .i64 f0, .slice s0 xs0.length cap0] 24)
      have BX0 := Lib.hid (FluxAt.new w c0 f0 s0 xs0.length cap0 24 w.heap.size rfl)
      replace FB := Lib.hid (below_new FB.out FN (.cells #[.int .i64 c0, .int .i64 f0, .slice s0 xs0.length cap0] 24))
      have hq1 : (w.alloc (.cells #[.int .i64 c0, .int .i64 f0, .slice s0 xs0.length cap0] 24)).heap.size = w.heap.size + 1 := by simp
      replace FN : w.heap.size ≤ (w.alloc (.cells #[.int .i64 c0, .int .i64 f0, .slice s0 xs0.length cap0] 24)).heap.size := by omega
      clear hS
      have hS := Sm.alloc (w.alloc (.cells #[.int .i64 c0, .int .i64 f0, .slice s0 xs0.length cap0] 24)) (.cells #[.int .i64 c1, .int .i64 f1, .slice s1 xs1.length cap1] 24)
      replace BX0 := Lib.hid (BX0.out.sm hS (by omega))
      have BX1 := Lib.hid (FluxAt.new (w.alloc (.cells #[.int .i64 c0, .int .i64 f0, .slice s0 xs0.length cap0] 24)) c1 f1 s1 xs1.length cap1 24 (w.heap.size + 1) (by simp))
      replace FB := Lib.hid (below_new FB.out FN (.cells #[.int .i64 c1, .int .i64 f1, .slice s1 xs1.length cap1] 24))
      have hq2 : ((w.alloc (.cells #[.int .i64 c0, .int .i64 f0, .slice s0 xs0.length cap0] 24)).alloc (.cells #[.int .i64 c1, .int .i64 f1, .slice s1 xs1.length cap1] 24)).heap.size = (w.alloc (.cells #[.int .i64 c0, .int .i64 f0, .slice s0 xs0.length cap0] 24)).heap.size + 1 := by simp
      replace FN : w.heap.size ≤ ((w.alloc (.cells #[.int .i64 c0, .int .i64 f0, .slice s0 xs0.length cap0] 24)).alloc (.cells #[.int .i64 c1, .int .i64 f1, .slice s1 xs1.length cap1] 24)).heap.size := by omega
      clear hS
      obtain ⟨xBX00, xBX01, xBX02⟩ := BX0.out
      go_wp2_with fail
      refine (SZ0.out _).mono ?_
      rintro e w3_ ⟨rfl, hb3⟩
      clear xBX00 xBX01 xBX02
      have hS := Sm.of_below hb3
      replace BX0 := Lib.hid (BX0.out.sm hS (by omega))
      replace BX1 := Lib.hid (BX1.out.sm hS (by omega))
      replace FB := Lib.hid (below_step FB.out FN hb3)
      have hzw3_ := hb3.size
      replace FN := Nat.le_trans FN hzw3_
      clear hS hb3
      obtain ⟨xBX10, xBX11, xBX12⟩ := BX1.out
      go_wp2_with fail
      refine (SN1.out _).mono ?_
      rintro e w4_ ⟨rfl, hb4⟩
      clear xBX10 xBX11 xBX12
      have hS := Sm.of_below hb4
      replace BX0 := Lib.hid (BX0.out.sm hS (by omega))
      replace BX1 := Lib.hid (BX1.out.sm hS (by omega))
      replace FB := Lib.hid (below_step FB.out FN hb4)
      have hzw4_ := hb4.size
      replace FN := Nat.le_trans FN hzw4_
      clear hS hb4
      go_wp2
      go_ret
      exact ⟨rfl, FB.out⟩
    case pos =>
      have sz1 := fun w' => szFlux_yes c1 f1 s1 xs1.length cap1 lf0 w' (by omega) hk1
      obtain ⟨lf1, hlf1⟩ : ∃ m, lf0 - xs1.length = m := ⟨_, rfl⟩
      rw [hlf1] at sz1
      have hlfb1 : ¬ ((lf1 : Int) < 0) := by omega
      have hlfc1 : lf1 ≤ 1048576 := by omega
      have SZ1 := Lib.hid sz1; clear sz1
      have hn0 : xs0.length ≤ 1048576 := by omega
      have hn1 : xs1.length ≤ 1048576 := by omega
      have TO0 := Lib.hid (fun w' (hb : Below w.heap.size w w') => toFlux_any c0 f0 s0 xs0 cap0 w' hn0 (hsl0.below hb (Nat.le_refl _)))
      have EX0 := Lib.hid (fun x d y d' w' (h1 : SlA w' x xs0) (h2 : SlA w' y xs0) => (eqFlux_any c0 f0 x xs0 d c0 f0 y xs0 d' w' (by omega) (by omega) h1 h2).mono (fun e w'' ⟨he, hw⟩ => (show e = Ending.returned (.bool true) ∧ _ from ⟨by rw [he]; simp [fluxEq], hw⟩)))
      have TO1 := Lib.hid (fun w' (hb : Below w.heap.size w w') => toFlux_any c1 f1 s1 xs1 cap1 w' hn1 (hsl1.below hb (Nat.le_refl _)))
      have EX1 := Lib.hid (fun x d y d' w' (h1 : SlA w' x xs1) (h2 : SlA w' y xs1) => (eqFlux_any c1 f1 x xs1 d c1 f1 y xs1 d' w' (by omega) (by omega) h1 h2).mono (fun e w'' ⟨he, hw⟩ => (show e = Ending.returned (.bool true) ∧ _ from ⟨by rw [he]; simp [fluxEq], hw⟩)))
      have hsp := fun g0 g1 w' (h0 : SlA w' (some ⟨g0, 0, none⟩) xs0) (h1 : SlA w' (some ⟨g1, 0, none⟩) xs1) => specJitterBetween_any c0 f0 (some ⟨g0, 0, none⟩) xs0.length xs0 c1 f1 (some ⟨g1, 0, none⟩) xs1.length xs1 hn0 hn1 w' h0 h1
      have him := fun g0 g1 w' (h0 : SlA w' (some ⟨g0, 0, none⟩) xs0) (h1 : SlA w' (some ⟨g1, 0, none⟩) xs1) => jitterBetween_any c0 f0 (some ⟨g0, 0, none⟩) xs0.length xs0 c1 f1 (some ⟨g1, 0, none⟩) xs1.length xs1 hn0 hn1 w' h0 h1
      generalize jtV c0 f0 xs0 c1 f1 xs1 = r0 at hsp him
      have hvq0 : (r0 != r0) = false := by simp
      generalize jtOk c0 f0 xs0 c1 f1 xs1 = r1 at hsp him
      have hvq1 : (r1 != r1) = false := by simp
      have SP := Lib.hid hsp; have IM := Lib.hid him; clear hsp him hsl0 hsl1
      go_enter Try.func3, Try.ntmps3
      have FB := Lib.hid (show Below w.heap.size w w from Below.refl _ _)
      have FN : w.heap.size ≤ w.heap.size := Nat.le_refl _
      have hS := Sm.alloc w (.cells #[.int .i64 c0, .int .i64 f0, .slice s0 xs0.length cap0] 24)
      have BX0 := Lib.hid (FluxAt.new w c0 f0 s0 xs0.length cap0 24 w.heap.size rfl)
      replace FB := Lib.hid (below_new FB.out FN (.cells #[.int .i64 c0, .int .i64 f0, .slice s0 xs0.length cap0] 24))
      have hq1 : (w.alloc (.cells #[.int .i64 c0, .int .i64 f0, .slice s0 xs0.length cap0] 24)).heap.size = w.heap.size + 1 := by simp
      replace FN : w.heap.size ≤ (w.alloc (.cells #[.int .i64 c0, .int .i64 f0, .slice s0 xs0.length cap0] 24)).heap.size := by omega
      clear hS
      have hS := Sm.alloc (w.alloc (.cells #[.int .i64 c0, .int .i64 f0, .slice s0 xs0.length cap0] 24)) (.cells #[.int .i64 c1, .int .i64 f1, .slice s1 xs1.length cap1] 24)
      replace BX0 := Lib.hid (BX0.out.sm hS (by omega))
      have BX1 := Lib.hid (FluxAt.new (w.alloc (.cells #[.int .i64 c0, .int .i64 f0, .slice s0 xs0.length cap0] 24)) c1 f1 s1 xs1.length cap1 24 (w.heap.size + 1) (by simp))
      replace FB := Lib.hid (below_new FB.out FN (.cells #[.int .i64 c1, .int .i64 f1, .slice s1 xs1.length cap1] 24))
      have hq2 : ((w.alloc (.cells #[.int .i64 c0, .int .i64 f0, .slice s0 xs0.length cap0] 24)).alloc (.cells #[.int .i64 c1, .int .i64 f1, .slice s1 xs1.length cap1] 24)).heap.size = (w.alloc (.cells #[.int .i64 c0, .int .i64 f0, .slice s0 xs0.length cap0] 24)).heap.size + 1 := by simp
      replace FN : w.heap.size ≤ ((w.alloc (.cells #[.int .i64 c0, .int .i64 f0, .slice s0 xs0.length cap0] 24)).alloc (.cells #[.int .i64 c1, .int .i64 f1, .slice s1 xs1.length cap1] 24)).heap.size := by omega
      clear hS
      obtain ⟨xBX00, xBX01, xBX02⟩ := BX0.out
      go_wp2_with fail
      refine (SZ0.out _).mono ?_
      rintro e w3_ ⟨rfl, hb3⟩
      clear xBX00 xBX01 xBX02
      have hS := Sm.of_below hb3
      replace BX0 := Lib.hid (BX0.out.sm hS (by omega))
      replace BX1 := Lib.hid (BX1.out.sm hS (by omega))
      replace FB := Lib.hid (below_step FB.out FN hb3)
      have hzw3_ := hb3.size
      replace FN := Nat.le_trans FN hzw3_
      clear hS hb3
      obtain ⟨xBX10, xBX11, xBX12⟩ := BX1.out
      go_wp2_with fail
      refine (SZ1.out _).mono ?_
      rintro e w4_ ⟨rfl, hb4⟩
      clear xBX10 xBX11 xBX12
      have hS := Sm.of_below hb4
      replace BX0 := Lib.hid (BX0.out.sm hS (by omega))
      replace BX1 := Lib.hid (BX1.out.sm hS (by omega))
      replace FB := Lib.hid (below_step FB.out FN hb4)
      have hzw4_ := hb4.size
      replace FN := Nat.le_trans FN hzw4_
      clear hS hb4
      have hlBX0 := BX0.out.lt
      have hlBX1 := BX1.out.lt
      obtain ⟨xBX00, xBX01, xBX02⟩ := BX0.out
      obtain ⟨xBX10, xBX11, xBX12⟩ := BX1.out
      have KS := Lib.hid (fun w' (hb : Below w4_.heap.size w4_ w') => (show (w'.cell? ⟨w.heap.size, 0, none⟩ = some (.int .i64 c0) ∧ w'.cell? ⟨w.heap.size, 1, none⟩ = some (.int .i64 f0) ∧ w'.cell? ⟨w.heap.size, 2, none⟩ = some (.slice s0 xs0.length cap0)) ∧ (w'.cell? ⟨(w.heap.size + 1), 0, none⟩ = some (.int .i64 c1) ∧ w'.cell? ⟨(w.heap.size + 1), 1, none⟩ = some (.int .i64 f1) ∧ w'.cell? ⟨(w.heap.size + 1), 2, none⟩ = some (.slice s1 xs1.length cap1)) from ⟨BX0.out.below hb hlBX0, BX1.out.below hb hlBX1⟩))
      have hks : (w4_.cell? ⟨w.heap.size, 0, none⟩ = some (.int .i64 c0) ∧ w4_.cell? ⟨w.heap.size, 1, none⟩ = some (.int .i64 f0) ∧ w4_.cell? ⟨w.heap.size, 2, none⟩ = some (.slice s0 xs0.length cap0)) ∧ (w4_.cell? ⟨(w.heap.size + 1), 0, none⟩ = some (.int .i64 c1) ∧ w4_.cell? ⟨(w.heap.size + 1), 1, none⟩ = some (.int .i64 f1) ∧ w4_.cell? ⟨(w.heap.size + 1), 2, none⟩ = some (.slice s1 xs1.length cap1)) := KS.out _ (Below.refl _ _)
      have FBX := Lib.hid (fun w' (hb : Below w4_.heap.size w4_ w') => (show Below w.heap.size w w' from FB.out.trans (hb.mono FN)))
      have HC := Lib.hid (show Below w4_.heap.size w4_ w4_.drew from (Below.refl _ _).drew)
      go_wp2
      go_region_held3 (fun w' => (w'.cell? ⟨w.heap.size, 0, none⟩ = some (.int .i64 c0) ∧ w'.cell? ⟨w.heap.size, 1, none⟩ = some (.int .i64 f0) ∧ w'.cell? ⟨w.heap.size, 2, none⟩ = some (.slice s0 xs0.length cap0)) ∧ (w'.cell? ⟨(w.heap.size + 1), 0, none⟩ = some (.int .i64 c1) ∧ w'.cell? ⟨(w.heap.size + 1), 1, none⟩ = some (.int .i64 f1) ∧ w'.cell? ⟨(w.heap.size + 1), 2, none⟩ = some (.slice s1 xs1.length cap1)))
        (first | (with_reducible exact KS.out _ HC.out) | (with_reducible exact KS.out _ (HC.out.alloc HC.out.size _)) | go_keep)
        (first
          | (go_at_call 6; first | ((with_reducible refine (TO0.out _ (FBX.out _ HC.out)).mono ?_); rintro e wt0 ⟨gt0, rfl, hrowt0, hgt0, hbt0⟩; (try (replace R0 := Lib.hid (R0.out.sm (Sm.of_below hbt0) (by omega)))); (try (replace R1 := Lib.hid (R1.out.sm (Sm.of_below hbt0) (by omega)))); replace HC := Lib.hid (HC.out.trans (hbt0.mono HC.out.size)); have R0 := Lib.hid (hrowt0.sli hgt0)) | ((with_reducible refine (TO1.out _ (FBX.out _ HC.out)).mono ?_); rintro e wt1 ⟨gt1, rfl, hrowt1, hgt1, hbt1⟩; (try (replace R0 := Lib.hid (R0.out.sm (Sm.of_below hbt1) (by omega)))); (try (replace R1 := Lib.hid (R1.out.sm (Sm.of_below hbt1) (by omega)))); replace HC := Lib.hid (HC.out.trans (hbt1.mono HC.out.size)); have R1 := Lib.hid (hrowt1.sli hgt1)))
          | (go_at_call 5; ((with_reducible refine (SP.out _ _ _ R0.out.sl R1.out.sl).mono ?_); rintro e w5_ ⟨rfl, hb5⟩; have hbf5 := HC.out.size; (try (replace R0 := Lib.hid (R0.out.sm (Sm.of_below hb5) (by omega)))); (try (replace R1 := Lib.hid (R1.out.sm (Sm.of_below hb5) (by omega)))); replace HC := Lib.hid (HC.out.trans (hb5.mono HC.out.size)); skip))
          | fail)
      all_goals
        replace BX0 := Lib.hid (BX0.out.below HC.out hlBX0)
        replace BX1 := Lib.hid (BX1.out.below HC.out hlBX1)
        replace FB := Lib.hid (FBX.out _ HC.out)
        have hzz5 := HC.out.size
        replace FN := Nat.le_trans FN hzz5
        clear hks KS HC FBX hlBX0 hlBX1
        clear hbf5
        clear xBX00 xBX01 xBX02
        clear xBX10 xBX11 xBX12
        clear hrowt0 hgt0
        clear hbt0
        clear hrowt1 hgt1
        clear hbt1
        clear R0
        clear R1
        obtain ⟨xBX00, xBX01, xBX02⟩ := BX0.out
        go_wp2_with fail
        refine (TO0.out _ FB.out).mono ?_
        rintro e w6_ ⟨g6, rfl, hrow6, hg6, hb6⟩
        clear xBX00 xBX01 xBX02
        have hS := Sm.of_below hb6
        replace BX0 := Lib.hid (BX0.out.sm hS (by omega))
        replace BX1 := Lib.hid (BX1.out.sm hS (by omega))
        replace FB := Lib.hid (below_step FB.out FN hb6)
        have hzw6_ := hb6.size
        replace FN := Nat.le_trans FN hzw6_
        clear hS hb6
        have X0 := Lib.hid (hrow6.sli hg6)
        clear hrow6 hg6
        have hS := Sm.alloc w6_ (.cells #[.int .i64 c0, .int .i64 f0, .slice (some ⟨g6, 0, none⟩) xs0.length xs0.length] 28)
        replace BX0 := Lib.hid (BX0.out.sm hS (by omega))
        replace BX1 := Lib.hid (BX1.out.sm hS (by omega))
        replace X0 := Lib.hid (X0.out.sm hS (by omega))
        have CX0 := Lib.hid (FluxAt.new w6_ c0 f0 (some ⟨g6, 0, none⟩) xs0.length xs0.length 28 w6_.heap.size rfl)
        replace FB := Lib.hid (below_new FB.out FN (.cells #[.int .i64 c0, .int .i64 f0, .slice (some ⟨g6, 0, none⟩) xs0.length xs0.length] 28))
        have hq7 : (w6_.alloc (.cells #[.int .i64 c0, .int .i64 f0, .slice (some ⟨g6, 0, none⟩) xs0.length xs0.length] 28)).heap.size = w6_.heap.size + 1 := by simp
        replace FN : w.heap.size ≤ (w6_.alloc (.cells #[.int .i64 c0, .int .i64 f0, .slice (some ⟨g6, 0, none⟩) xs0.length xs0.length] 28)).heap.size := by omega
        clear hS
        obtain ⟨xBX10, xBX11, xBX12⟩ := BX1.out
        go_wp2_with fail
        refine (TO1.out _ FB.out).mono ?_
        rintro e w8_ ⟨g8, rfl, hrow8, hg8, hb8⟩
        clear xBX10 xBX11 xBX12
        have hS := Sm.of_below hb8
        replace BX0 := Lib.hid (BX0.out.sm hS (by omega))
        replace BX1 := Lib.hid (BX1.out.sm hS (by omega))
        replace X0 := Lib.hid (X0.out.sm hS (by omega))
        replace CX0 := Lib.hid (CX0.out.sm hS (by omega))
        replace FB := Lib.hid (below_step FB.out FN hb8)
        have hzw8_ := hb8.size
        replace FN := Nat.le_trans FN hzw8_
        clear hS hb8
        have X1 := Lib.hid (hrow8.sli hg8)
        clear hrow8 hg8
        have hS := Sm.alloc w8_ (.cells #[.int .i64 c1, .int .i64 f1, .slice (some ⟨g8, 0, none⟩) xs1.length xs1.length] 28)
        replace BX0 := Lib.hid (BX0.out.sm hS (by omega))
        replace BX1 := Lib.hid (BX1.out.sm hS (by omega))
        replace X0 := Lib.hid (X0.out.sm hS (by omega))
        replace CX0 := Lib.hid (CX0.out.sm hS (by omega))
        replace X1 := Lib.hid (X1.out.sm hS (by omega))
        have CX1 := Lib.hid (FluxAt.new w8_ c1 f1 (some ⟨g8, 0, none⟩) xs1.length xs1.length 28 w8_.heap.size rfl)
        replace FB := Lib.hid (below_new FB.out FN (.cells #[.int .i64 c1, .int .i64 f1, .slice (some ⟨g8, 0, none⟩) xs1.length xs1.length] 28))
        have hq9 : (w8_.alloc (.cells #[.int .i64 c1, .int .i64 f1, .slice (some ⟨g8, 0, none⟩) xs1.length xs1.length] 28)).heap.size = w8_.heap.size + 1 := by simp
        replace FN : w.heap.size ≤ (w8_.alloc (.cells #[.int .i64 c1, .int .i64 f1, .slice (some ⟨g8, 0, none⟩) xs1.length xs1.length] 28)).heap.size := by omega
        clear hS
        obtain ⟨xCX00, xCX01, xCX02⟩ := CX0.out
        obtain ⟨xCX10, xCX11, xCX12⟩ := CX1.out
        go_wp2_with fail
        refine (IM.out _ _ _ X0.out.sl X1.out.sl).mono ?_
        rintro e w10_ ⟨rfl, hb10⟩
        clear xCX00 xCX01 xCX02
        clear xCX10 xCX11 xCX12
        have hS := Sm.of_below hb10
        replace BX0 := Lib.hid (BX0.out.sm hS (by omega))
        replace BX1 := Lib.hid (BX1.out.sm hS (by omega))
        replace X0 := Lib.hid (X0.out.sm hS (by omega))
        replace CX0 := Lib.hid (CX0.out.sm hS (by omega))
        replace X1 := Lib.hid (X1.out.sm hS (by omega))
        replace CX1 := Lib.hid (CX1.out.sm hS (by omega))
        replace FB := Lib.hid (below_step FB.out FN hb10)
        have hzw10_ := hb10.size
        replace FN := Nat.le_trans FN hzw10_
        clear hS hb10
        have hlCX0 := CX0.out.lt
        have hlBX0 := BX0.out.lt
        obtain ⟨xCX00, xCX01, xCX02⟩ := CX0.out
        obtain ⟨xBX00, xBX01, xBX02⟩ := BX0.out
        have KS := Lib.hid (fun w' (hb : Below w10_.heap.size w10_ w') => (show (w'.cell? ⟨w6_.heap.size, 0, none⟩ = some (.int .i64 c0) ∧ w'.cell? ⟨w6_.heap.size, 1, none⟩ = some (.int .i64 f0) ∧ w'.cell? ⟨w6_.heap.size, 2, none⟩ = some (.slice (some ⟨g6, 0, none⟩) xs0.length xs0.length)) ∧ (w'.cell? ⟨w.heap.size, 0, none⟩ = some (.int .i64 c0) ∧ w'.cell? ⟨w.heap.size, 1, none⟩ = some (.int .i64 f0) ∧ w'.cell? ⟨w.heap.size, 2, none⟩ = some (.slice s0 xs0.length cap0)) from ⟨CX0.out.below hb hlCX0, BX0.out.below hb hlBX0⟩))
        have hks : (w10_.cell? ⟨w6_.heap.size, 0, none⟩ = some (.int .i64 c0) ∧ w10_.cell? ⟨w6_.heap.size, 1, none⟩ = some (.int .i64 f0) ∧ w10_.cell? ⟨w6_.heap.size, 2, none⟩ = some (.slice (some ⟨g6, 0, none⟩) xs0.length xs0.length)) ∧ (w10_.cell? ⟨w.heap.size, 0, none⟩ = some (.int .i64 c0) ∧ w10_.cell? ⟨w.heap.size, 1, none⟩ = some (.int .i64 f0) ∧ w10_.cell? ⟨w.heap.size, 2, none⟩ = some (.slice s0 xs0.length cap0)) := KS.out _ (Below.refl _ _)
        have FBX := Lib.hid (fun w' (hb : Below w10_.heap.size w10_ w') => (show Below w.heap.size w w' from FB.out.trans (hb.mono FN)))
        have HC := Lib.hid (show Below w10_.heap.size w10_ w10_.drew from (Below.refl _ _).drew)
        replace X0 := Lib.hid X0.out.drew
        replace X1 := Lib.hid X1.out.drew
        go_wp2
        go_region_held3 (fun w' => (w'.cell? ⟨w6_.heap.size, 0, none⟩ = some (.int .i64 c0) ∧ w'.cell? ⟨w6_.heap.size, 1, none⟩ = some (.int .i64 f0) ∧ w'.cell? ⟨w6_.heap.size, 2, none⟩ = some (.slice (some ⟨g6, 0, none⟩) xs0.length xs0.length)) ∧ (w'.cell? ⟨w.heap.size, 0, none⟩ = some (.int .i64 c0) ∧ w'.cell? ⟨w.heap.size, 1, none⟩ = some (.int .i64 f0) ∧ w'.cell? ⟨w.heap.size, 2, none⟩ = some (.slice s0 xs0.length cap0)))
          (first | (with_reducible exact KS.out _ HC.out) | (with_reducible exact KS.out _ (HC.out.alloc HC.out.size _)) | go_keep)
          (first
            | (go_at_call 6; ((with_reducible refine (TO0.out _ (FBX.out _ HC.out)).mono ?_); rintro e wt0 ⟨gt0, rfl, hrowt0, hgt0, hbt0⟩; (try (replace X0 := Lib.hid (X0.out.sm (Sm.of_below hbt0) (by omega)))); (try (replace X1 := Lib.hid (X1.out.sm (Sm.of_below hbt0) (by omega)))); (try (replace Y0 := Lib.hid (Y0.out.sm (Sm.of_below hbt0) (by omega)))); replace HC := Lib.hid (HC.out.trans (hbt0.mono HC.out.size)); have Y0 := Lib.hid (hrowt0.sli hgt0)))
            | (go_at_call 8; ((with_reducible refine (EX0.out _ _ _ _ _ X0.out.sl Y0.out.sl).mono ?_); rintro e w11_ ⟨rfl, hb11⟩; have hbf11 := HC.out.size; (try (replace X0 := Lib.hid (X0.out.sm (Sm.of_below hb11) (by omega)))); (try (replace X1 := Lib.hid (X1.out.sm (Sm.of_below hb11) (by omega)))); (try (replace Y0 := Lib.hid (Y0.out.sm (Sm.of_below hb11) (by omega)))); replace HC := Lib.hid (HC.out.trans (hb11.mono HC.out.size)); skip))
            | fail)
        all_goals
          replace CX0 := Lib.hid (CX0.out.below HC.out hlCX0)
          replace BX0 := Lib.hid (BX0.out.below HC.out hlBX0)
          replace BX1 := Lib.hid (BX1.out.sm (Sm.of_below HC.out) (by omega))
          replace CX1 := Lib.hid (CX1.out.sm (Sm.of_below HC.out) (by omega))
          replace FB := Lib.hid (FBX.out _ HC.out)
          have hzz11 := HC.out.size
          replace FN := Nat.le_trans FN hzz11
          clear hks KS HC FBX hlCX0 hlBX0
          clear hbf11
          clear xCX00 xCX01 xCX02
          clear xBX00 xBX01 xBX02
          clear hrowt0 hgt0
          clear hbt0
          clear Y0
          have hlCX1 := CX1.out.lt
          have hlBX1 := BX1.out.lt
          obtain ⟨xCX10, xCX11, xCX12⟩ := CX1.out
          obtain ⟨xBX10, xBX11, xBX12⟩ := BX1.out
          have KS := Lib.hid (fun w' (hb : Below w11_.heap.size w11_ w') => (show (w'.cell? ⟨w8_.heap.size, 0, none⟩ = some (.int .i64 c1) ∧ w'.cell? ⟨w8_.heap.size, 1, none⟩ = some (.int .i64 f1) ∧ w'.cell? ⟨w8_.heap.size, 2, none⟩ = some (.slice (some ⟨g8, 0, none⟩) xs1.length xs1.length)) ∧ (w'.cell? ⟨(w.heap.size + 1), 0, none⟩ = some (.int .i64 c1) ∧ w'.cell? ⟨(w.heap.size + 1), 1, none⟩ = some (.int .i64 f1) ∧ w'.cell? ⟨(w.heap.size + 1), 2, none⟩ = some (.slice s1 xs1.length cap1)) from ⟨CX1.out.below hb hlCX1, BX1.out.below hb hlBX1⟩))
          have hks : (w11_.cell? ⟨w8_.heap.size, 0, none⟩ = some (.int .i64 c1) ∧ w11_.cell? ⟨w8_.heap.size, 1, none⟩ = some (.int .i64 f1) ∧ w11_.cell? ⟨w8_.heap.size, 2, none⟩ = some (.slice (some ⟨g8, 0, none⟩) xs1.length xs1.length)) ∧ (w11_.cell? ⟨(w.heap.size + 1), 0, none⟩ = some (.int .i64 c1) ∧ w11_.cell? ⟨(w.heap.size + 1), 1, none⟩ = some (.int .i64 f1) ∧ w11_.cell? ⟨(w.heap.size + 1), 2, none⟩ = some (.slice s1 xs1.length cap1)) := KS.out _ (Below.refl _ _)
          have FBX := Lib.hid (fun w' (hb : Below w11_.heap.size w11_ w') => (show Below w.heap.size w w' from FB.out.trans (hb.mono FN)))
          have HC := Lib.hid (show Below w11_.heap.size w11_ w11_.drew from (Below.refl _ _).drew)
          replace X0 := Lib.hid X0.out.drew
          replace X1 := Lib.hid X1.out.drew
          go_wp2
          go_region_held3 (fun w' => (w'.cell? ⟨w8_.heap.size, 0, none⟩ = some (.int .i64 c1) ∧ w'.cell? ⟨w8_.heap.size, 1, none⟩ = some (.int .i64 f1) ∧ w'.cell? ⟨w8_.heap.size, 2, none⟩ = some (.slice (some ⟨g8, 0, none⟩) xs1.length xs1.length)) ∧ (w'.cell? ⟨(w.heap.size + 1), 0, none⟩ = some (.int .i64 c1) ∧ w'.cell? ⟨(w.heap.size + 1), 1, none⟩ = some (.int .i64 f1) ∧ w'.cell? ⟨(w.heap.size + 1), 2, none⟩ = some (.slice s1 xs1.length cap1)))
            (first | (with_reducible exact KS.out _ HC.out) | (with_reducible exact KS.out _ (HC.out.alloc HC.out.size _)) | go_keep)
            (first
              | (go_at_call 6; ((with_reducible refine (TO1.out _ (FBX.out _ HC.out)).mono ?_); rintro e wt1 ⟨gt1, rfl, hrowt1, hgt1, hbt1⟩; (try (replace X0 := Lib.hid (X0.out.sm (Sm.of_below hbt1) (by omega)))); (try (replace X1 := Lib.hid (X1.out.sm (Sm.of_below hbt1) (by omega)))); (try (replace Y1 := Lib.hid (Y1.out.sm (Sm.of_below hbt1) (by omega)))); replace HC := Lib.hid (HC.out.trans (hbt1.mono HC.out.size)); have Y1 := Lib.hid (hrowt1.sli hgt1)))
              | (go_at_call 8; ((with_reducible refine (EX1.out _ _ _ _ _ X1.out.sl Y1.out.sl).mono ?_); rintro e w12_ ⟨rfl, hb12⟩; have hbf12 := HC.out.size; (try (replace X0 := Lib.hid (X0.out.sm (Sm.of_below hb12) (by omega)))); (try (replace X1 := Lib.hid (X1.out.sm (Sm.of_below hb12) (by omega)))); (try (replace Y1 := Lib.hid (Y1.out.sm (Sm.of_below hb12) (by omega)))); replace HC := Lib.hid (HC.out.trans (hb12.mono HC.out.size)); skip))
              | fail)
          all_goals
            replace CX1 := Lib.hid (CX1.out.below HC.out hlCX1)
            replace BX1 := Lib.hid (BX1.out.below HC.out hlBX1)
            replace BX0 := Lib.hid (BX0.out.sm (Sm.of_below HC.out) (by omega))
            replace CX0 := Lib.hid (CX0.out.sm (Sm.of_below HC.out) (by omega))
            replace FB := Lib.hid (FBX.out _ HC.out)
            have hzz12 := HC.out.size
            replace FN := Nat.le_trans FN hzz12
            clear hks KS HC FBX hlCX1 hlBX1
            clear hbf12
            clear xCX10 xCX11 xCX12
            clear xBX10 xBX11 xBX12
            clear hrowt1 hgt1
            clear hbt1
            clear Y1
            go_wp2
            go_ret
            exact ⟨rfl, FB.out⟩
end Go.Proofs.Ytlpmoiicindiiaa.fnExactJitterBetween
