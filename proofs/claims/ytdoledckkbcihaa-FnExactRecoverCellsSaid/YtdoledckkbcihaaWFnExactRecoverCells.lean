/- FnExactRecoverCells: the law's walk. -/
import Derived.Test.YtdoledckkbcihaaSm
import Derived.Test.YtdoledckkbcihaaOpenFlux
import Derived.Test.YtdoledckkbcihaaBoxes
import Derived.Test.YtdoledckkbcihaaRecIm
import Derived.Test.YtdoledckkbcihaaRecSp
import Derived.Test.YtdoledckkbcihaaRecSm
import Derived.Test.YtdoledckkbcihaaLawClock
import Derived.Test.YtdoledckkbcihaaOpenClock
namespace Go.Proofs.Ytdoledckkbcihaa.fnExactRecoverCells
open Go.RowKit
set_option linter.unusedVariables false
set_option maxRecDepth 20000 in
set_option maxHeartbeats 8000000 in
theorem walk (c0 f0 : Int) (s0 : Option Addr) (xs0 : List Int) (cap0 : Nat) (c1_0 l1_1 h1_2 p1_3 s1_4 : Int) (w : World) (w0 : FluxArg w s0 xs0)  :
    Calls Try.prog 8 #[.agg #[.int .i64 c0, .int .i64 f0, .slice s0 xs0.length cap0], .agg #[.int .i64 c1_0, .int .i64 l1_1, .int .i64 h1_2, .int .i64 p1_3, .int .i64 s1_4]] w fun e w' => e = .returned (.bool true) ∧ Below w.heap.size w w' := by
  obtain ⟨hm0, hsl0⟩ := w0
  by_cases hk0 : xs0.length ≤ 1048576
  case neg =>
    have SN0 := Lib.hid (fun w' => szFlux_no c0 f0 s0 xs0.length cap0 1048576 w' (by omega) hm0 (by omega))
    clear hsl0
    go_enter Try.func8, Try.ntmps8
    have FB := Lib.hid (show Below w.heap.size w w from Below.refl _ _)
    have FN : w.heap.size ≤ w.heap.size := Nat.le_refl _
    have hS := Sm.alloc w (.cells #[.int .i64 c0, .int .i64 f0, .slice s0 xs0.length cap0] 51)
    have BX0 := Lib.hid (FluxAt.new w c0 f0 s0 xs0.length cap0 51 w.heap.size rfl)
    replace FB := Lib.hid (below_new FB.out FN (.cells #[.int .i64 c0, .int .i64 f0, .slice s0 xs0.length cap0] 51))
    have hq1 : (w.alloc (.cells #[.int .i64 c0, .int .i64 f0, .slice s0 xs0.length cap0] 51)).heap.size = w.heap.size + 1 := by simp
    replace FN : w.heap.size ≤ (w.alloc (.cells #[.int .i64 c0, .int .i64 f0, .slice s0 xs0.length cap0] 51)).heap.size := by omega
    clear hS
    have hS := Sm.alloc (w.alloc (.cells #[.int .i64 c0, .int .i64 f0, .slice s0 xs0.length cap0] 51)) (.cells #[.int .i64 c1_0, .int .i64 l1_1, .int .i64 h1_2, .int .i64 p1_3, .int .i64 s1_4] 53)
    replace BX0 := Lib.hid (BX0.out.sm hS (by omega))
    have BX1 := Lib.hid (BoxAt.new (w.alloc (.cells #[.int .i64 c0, .int .i64 f0, .slice s0 xs0.length cap0] 51)) #[.int .i64 c1_0, .int .i64 l1_1, .int .i64 h1_2, .int .i64 p1_3, .int .i64 s1_4] 53 (w.heap.size + 1) (by simp))
    replace FB := Lib.hid (below_new FB.out FN (.cells #[.int .i64 c1_0, .int .i64 l1_1, .int .i64 h1_2, .int .i64 p1_3, .int .i64 s1_4] 53))
    have hq2 : ((w.alloc (.cells #[.int .i64 c0, .int .i64 f0, .slice s0 xs0.length cap0] 51)).alloc (.cells #[.int .i64 c1_0, .int .i64 l1_1, .int .i64 h1_2, .int .i64 p1_3, .int .i64 s1_4] 53)).heap.size = (w.alloc (.cells #[.int .i64 c0, .int .i64 f0, .slice s0 xs0.length cap0] 51)).heap.size + 1 := by simp
    replace FN : w.heap.size ≤ ((w.alloc (.cells #[.int .i64 c0, .int .i64 f0, .slice s0 xs0.length cap0] 51)).alloc (.cells #[.int .i64 c1_0, .int .i64 l1_1, .int .i64 h1_2, .int .i64 p1_3, .int .i64 s1_4] 53)).heap.size := by omega
    clear hS
    obtain ⟨xBX00, xBX01, xBX02⟩ := BX0.out
    go_wp2_with fail
    refine (SN0.out _).mono ?_
    rintro e w3_ ⟨rfl, hb3⟩
    clear xBX00 xBX01 xBX02
    have hS := Sm.of_below hb3
    replace BX0 := Lib.hid (BX0.out.sm hS (by omega))
    replace BX1 := Lib.hid (BX1.out.sm hS (by omega))
    replace FB := Lib.hid (below_step FB.out FN hb3)
    have hzw3_ := hb3.size
    replace FN := Nat.le_trans FN hzw3_
    clear hS hb3
    go_wp2
    go_ret
    exact ⟨rfl, FB.out⟩
  case pos =>
    have sz0 := fun w' => szFlux_yes c0 f0 s0 xs0.length cap0 1048576 w' (by omega) hk0
    obtain ⟨lf0, hlf0⟩ : ∃ m, 1048576 - xs0.length = m := ⟨_, rfl⟩
    rw [hlf0] at sz0
    have hlfb0 : ¬ ((lf0 : Int) < 0) := by omega
    have hlfc0 : lf0 ≤ 1048576 := by omega
    have SZ0 := Lib.hid sz0; clear sz0
    have hn0 : xs0.length ≤ 1048576 := by omega
    have TO0 := Lib.hid (fun w' (hb : Below w.heap.size w w') => toFlux_any c0 f0 s0 xs0 cap0 w' hn0 (hsl0.below hb (Nat.le_refl _)))
    have EX0 := Lib.hid (fun x d y d' w' (h1 : SlA w' x xs0) (h2 : SlA w' y xs0) => (eqFlux_any c0 f0 x xs0 d c0 f0 y xs0 d' w' (by omega) (by omega) h1 h2).mono (fun e w'' ⟨he, hw⟩ => (show e = Ending.returned (.bool true) ∧ _ from ⟨by rw [he]; simp [fluxEq], hw⟩)))
    have TO1 := Lib.hid (fun w' => toClock_any c1_0 l1_1 h1_2 p1_3 s1_4 w')
    have hsp := fun g0 w' (h0 : SlA w' (some ⟨g0, 0, none⟩) xs0) => specRecoverCells_any c0 f0 (some ⟨g0, 0, none⟩) xs0.length xs0 c1_0 l1_1 h1_2 p1_3 s1_4 hn0 w' h0
    have him := fun g0 w' (h0 : SlA w' (some ⟨g0, 0, none⟩) xs0) => recoverCells_any c0 f0 (some ⟨g0, 0, none⟩) xs0.length xs0 c1_0 l1_1 h1_2 p1_3 s1_4 hn0 w' h0
    generalize rcV c0 f0 xs0 c1_0 l1_1 h1_2 p1_3 s1_4 = r0 at hsp him
    generalize rcCode c0 f0 xs0 c1_0 l1_1 h1_2 p1_3 s1_4 = r1 at hsp him
    have hvq1 : (r1 != r1) = false := by simp
    have SP := Lib.hid hsp; have IM := Lib.hid him; clear hsp him hsl0
    go_enter Try.func8, Try.ntmps8
    have FB := Lib.hid (show Below w.heap.size w w from Below.refl _ _)
    have FN : w.heap.size ≤ w.heap.size := Nat.le_refl _
    have hS := Sm.alloc w (.cells #[.int .i64 c0, .int .i64 f0, .slice s0 xs0.length cap0] 51)
    have BX0 := Lib.hid (FluxAt.new w c0 f0 s0 xs0.length cap0 51 w.heap.size rfl)
    replace FB := Lib.hid (below_new FB.out FN (.cells #[.int .i64 c0, .int .i64 f0, .slice s0 xs0.length cap0] 51))
    have hq1 : (w.alloc (.cells #[.int .i64 c0, .int .i64 f0, .slice s0 xs0.length cap0] 51)).heap.size = w.heap.size + 1 := by simp
    replace FN : w.heap.size ≤ (w.alloc (.cells #[.int .i64 c0, .int .i64 f0, .slice s0 xs0.length cap0] 51)).heap.size := by omega
    clear hS
    have hS := Sm.alloc (w.alloc (.cells #[.int .i64 c0, .int .i64 f0, .slice s0 xs0.length cap0] 51)) (.cells #[.int .i64 c1_0, .int .i64 l1_1, .int .i64 h1_2, .int .i64 p1_3, .int .i64 s1_4] 53)
    replace BX0 := Lib.hid (BX0.out.sm hS (by omega))
    have BX1 := Lib.hid (BoxAt.new (w.alloc (.cells #[.int .i64 c0, .int .i64 f0, .slice s0 xs0.length cap0] 51)) #[.int .i64 c1_0, .int .i64 l1_1, .int .i64 h1_2, .int .i64 p1_3, .int .i64 s1_4] 53 (w.heap.size + 1) (by simp))
    replace FB := Lib.hid (below_new FB.out FN (.cells #[.int .i64 c1_0, .int .i64 l1_1, .int .i64 h1_2, .int .i64 p1_3, .int .i64 s1_4] 53))
    have hq2 : ((w.alloc (.cells #[.int .i64 c0, .int .i64 f0, .slice s0 xs0.length cap0] 51)).alloc (.cells #[.int .i64 c1_0, .int .i64 l1_1, .int .i64 h1_2, .int .i64 p1_3, .int .i64 s1_4] 53)).heap.size = (w.alloc (.cells #[.int .i64 c0, .int .i64 f0, .slice s0 xs0.length cap0] 51)).heap.size + 1 := by simp
    replace FN : w.heap.size ≤ ((w.alloc (.cells #[.int .i64 c0, .int .i64 f0, .slice s0 xs0.length cap0] 51)).alloc (.cells #[.int .i64 c1_0, .int .i64 l1_1, .int .i64 h1_2, .int .i64 p1_3, .int .i64 s1_4] 53)).heap.size := by omega
    clear hS
    obtain ⟨xBX00, xBX01, xBX02⟩ := BX0.out
    go_wp2_with fail
    refine (SZ0.out _).mono ?_
    rintro e w3_ ⟨rfl, hb3⟩
    clear xBX00 xBX01 xBX02
    have hS := Sm.of_below hb3
    replace BX0 := Lib.hid (BX0.out.sm hS (by omega))
    replace BX1 := Lib.hid (BX1.out.sm hS (by omega))
    replace FB := Lib.hid (below_step FB.out FN hb3)
    have hzw3_ := hb3.size
    replace FN := Nat.le_trans FN hzw3_
    clear hS hb3
    have hlBX0 := BX0.out.lt
    have hlBX1 := BX1.out.lt (by simp)
    obtain ⟨xBX00, xBX01, xBX02⟩ := BX0.out
    have xBX10 := BX1.out 0 _ rfl
    have xBX11 := BX1.out 1 _ rfl
    have xBX12 := BX1.out 2 _ rfl
    have xBX13 := BX1.out 3 _ rfl
    have xBX14 := BX1.out 4 _ rfl
    have KS := Lib.hid (fun w' (hb : Below w3_.heap.size w3_ w') => (show (w'.cell? ⟨w.heap.size, 0, none⟩ = some (.int .i64 c0) ∧ w'.cell? ⟨w.heap.size, 1, none⟩ = some (.int .i64 f0) ∧ w'.cell? ⟨w.heap.size, 2, none⟩ = some (.slice s0 xs0.length cap0)) ∧ (w'.cell? ⟨(w.heap.size + 1), 0, none⟩ = some (.int .i64 c1_0) ∧ w'.cell? ⟨(w.heap.size + 1), 1, none⟩ = some (.int .i64 l1_1) ∧ w'.cell? ⟨(w.heap.size + 1), 2, none⟩ = some (.int .i64 h1_2) ∧ w'.cell? ⟨(w.heap.size + 1), 3, none⟩ = some (.int .i64 p1_3) ∧ w'.cell? ⟨(w.heap.size + 1), 4, none⟩ = some (.int .i64 s1_4)) from ⟨BX0.out.below hb hlBX0, ⟨(BX1.out.below hb hlBX1) 0 _ rfl, (BX1.out.below hb hlBX1) 1 _ rfl, (BX1.out.below hb hlBX1) 2 _ rfl, (BX1.out.below hb hlBX1) 3 _ rfl, (BX1.out.below hb hlBX1) 4 _ rfl⟩⟩))
    have hks : (w3_.cell? ⟨w.heap.size, 0, none⟩ = some (.int .i64 c0) ∧ w3_.cell? ⟨w.heap.size, 1, none⟩ = some (.int .i64 f0) ∧ w3_.cell? ⟨w.heap.size, 2, none⟩ = some (.slice s0 xs0.length cap0)) ∧ (w3_.cell? ⟨(w.heap.size + 1), 0, none⟩ = some (.int .i64 c1_0) ∧ w3_.cell? ⟨(w.heap.size + 1), 1, none⟩ = some (.int .i64 l1_1) ∧ w3_.cell? ⟨(w.heap.size + 1), 2, none⟩ = some (.int .i64 h1_2) ∧ w3_.cell? ⟨(w.heap.size + 1), 3, none⟩ = some (.int .i64 p1_3) ∧ w3_.cell? ⟨(w.heap.size + 1), 4, none⟩ = some (.int .i64 s1_4)) := KS.out _ (Below.refl _ _)
    have FBX := Lib.hid (fun w' (hb : Below w3_.heap.size w3_ w') => (show Below w.heap.size w w' from FB.out.trans (hb.mono FN)))
    have HC := Lib.hid (show Below w3_.heap.size w3_ w3_.drew from (Below.refl _ _).drew)
    go_wp2
    go_region_held3 (fun w' => (w'.cell? ⟨w.heap.size, 0, none⟩ = some (.int .i64 c0) ∧ w'.cell? ⟨w.heap.size, 1, none⟩ = some (.int .i64 f0) ∧ w'.cell? ⟨w.heap.size, 2, none⟩ = some (.slice s0 xs0.length cap0)) ∧ (w'.cell? ⟨(w.heap.size + 1), 0, none⟩ = some (.int .i64 c1_0) ∧ w'.cell? ⟨(w.heap.size + 1), 1, none⟩ = some (.int .i64 l1_1) ∧ w'.cell? ⟨(w.heap.size + 1), 2, none⟩ = some (.int .i64 h1_2) ∧ w'.cell? ⟨(w.heap.size + 1), 3, none⟩ = some (.int .i64 p1_3) ∧ w'.cell? ⟨(w.heap.size + 1), 4, none⟩ = some (.int .i64 s1_4)))
      (first | (with_reducible exact KS.out _ HC.out) | (with_reducible exact KS.out _ (HC.out.alloc HC.out.size _)) | go_keep)
      (first
        | (go_at_call 27; ((with_reducible refine (TO0.out _ (FBX.out _ HC.out)).mono ?_); rintro e wt0 ⟨gt0, rfl, hrowt0, hgt0, hbt0⟩; (try (replace R0 := Lib.hid (R0.out.sm (Sm.of_below hbt0) (by omega)))); replace HC := Lib.hid (HC.out.trans (hbt0.mono HC.out.size)); have R0 := Lib.hid (hrowt0.sli hgt0)))
        | (go_at_call 28; ((with_reducible refine (TO1.out _).mono ?_); rintro e wt1 ⟨rfl, hbt1⟩; (try (replace R0 := Lib.hid (R0.out.sm (Sm.of_below hbt1) (by omega)))); replace HC := Lib.hid (HC.out.trans (hbt1.mono HC.out.size)); skip))
        | (go_at_call 40; ((with_reducible refine (SP.out _ _ R0.out.sl).mono ?_); rintro e w4_ ⟨rfl, hb4⟩; have hbf4 := HC.out.size; (try (replace R0 := Lib.hid (R0.out.sm (Sm.of_below hb4) (by omega)))); replace HC := Lib.hid (HC.out.trans (hb4.mono HC.out.size)); skip))
        | fail)
    all_goals
      replace BX0 := Lib.hid (BX0.out.below HC.out hlBX0)
      replace BX1 := Lib.hid (BX1.out.below HC.out hlBX1)
      replace FB := Lib.hid (FBX.out _ HC.out)
      have hzz4 := HC.out.size
      replace FN := Nat.le_trans FN hzz4
      clear hks KS HC FBX hlBX0 hlBX1
      clear hbf4
      clear xBX00 xBX01 xBX02
      clear xBX10 xBX11 xBX12 xBX13 xBX14
      clear hrowt0 hgt0
      clear hbt0
      clear hbt1
      clear R0
      obtain ⟨xBX00, xBX01, xBX02⟩ := BX0.out
      go_wp2_with fail
      refine (TO0.out _ FB.out).mono ?_
      rintro e w5_ ⟨g5, rfl, hrow5, hg5, hb5⟩
      clear xBX00 xBX01 xBX02
      have hS := Sm.of_below hb5
      replace BX0 := Lib.hid (BX0.out.sm hS (by omega))
      replace BX1 := Lib.hid (BX1.out.sm hS (by omega))
      replace FB := Lib.hid (below_step FB.out FN hb5)
      have hzw5_ := hb5.size
      replace FN := Nat.le_trans FN hzw5_
      clear hS hb5
      have X0 := Lib.hid (hrow5.sli hg5)
      clear hrow5 hg5
      have hS := Sm.alloc w5_ (.cells #[.int .i64 c0, .int .i64 f0, .slice (some ⟨g5, 0, none⟩) xs0.length xs0.length] 57)
      replace BX0 := Lib.hid (BX0.out.sm hS (by omega))
      replace BX1 := Lib.hid (BX1.out.sm hS (by omega))
      replace X0 := Lib.hid (X0.out.sm hS (by omega))
      have CX0 := Lib.hid (FluxAt.new w5_ c0 f0 (some ⟨g5, 0, none⟩) xs0.length xs0.length 57 w5_.heap.size rfl)
      replace FB := Lib.hid (below_new FB.out FN (.cells #[.int .i64 c0, .int .i64 f0, .slice (some ⟨g5, 0, none⟩) xs0.length xs0.length] 57))
      have hq6 : (w5_.alloc (.cells #[.int .i64 c0, .int .i64 f0, .slice (some ⟨g5, 0, none⟩) xs0.length xs0.length] 57)).heap.size = w5_.heap.size + 1 := by simp
      replace FN : w.heap.size ≤ (w5_.alloc (.cells #[.int .i64 c0, .int .i64 f0, .slice (some ⟨g5, 0, none⟩) xs0.length xs0.length] 57)).heap.size := by omega
      clear hS
      have hlCX0 := CX0.out.lt
      have hlBX1 := BX1.out.lt (by simp)
      obtain ⟨xCX00, xCX01, xCX02⟩ := CX0.out
      have xBX10 := BX1.out 0 _ rfl
      have xBX11 := BX1.out 1 _ rfl
      have xBX12 := BX1.out 2 _ rfl
      have xBX13 := BX1.out 3 _ rfl
      have xBX14 := BX1.out 4 _ rfl
      have KS := Lib.hid (fun w' (hb : Below (w5_.alloc (.cells #[.int .i64 c0, .int .i64 f0, .slice (some ⟨g5, 0, none⟩) xs0.length xs0.length] 57)).heap.size (w5_.alloc (.cells #[.int .i64 c0, .int .i64 f0, .slice (some ⟨g5, 0, none⟩) xs0.length xs0.length] 57)) w') => (show (w'.cell? ⟨w5_.heap.size, 0, none⟩ = some (.int .i64 c0) ∧ w'.cell? ⟨w5_.heap.size, 1, none⟩ = some (.int .i64 f0) ∧ w'.cell? ⟨w5_.heap.size, 2, none⟩ = some (.slice (some ⟨g5, 0, none⟩) xs0.length xs0.length)) ∧ (w'.cell? ⟨(w.heap.size + 1), 0, none⟩ = some (.int .i64 c1_0) ∧ w'.cell? ⟨(w.heap.size + 1), 1, none⟩ = some (.int .i64 l1_1) ∧ w'.cell? ⟨(w.heap.size + 1), 2, none⟩ = some (.int .i64 h1_2) ∧ w'.cell? ⟨(w.heap.size + 1), 3, none⟩ = some (.int .i64 p1_3) ∧ w'.cell? ⟨(w.heap.size + 1), 4, none⟩ = some (.int .i64 s1_4)) from ⟨CX0.out.below hb hlCX0, ⟨(BX1.out.below hb hlBX1) 0 _ rfl, (BX1.out.below hb hlBX1) 1 _ rfl, (BX1.out.below hb hlBX1) 2 _ rfl, (BX1.out.below hb hlBX1) 3 _ rfl, (BX1.out.below hb hlBX1) 4 _ rfl⟩⟩))
      have hks : ((w5_.alloc (.cells #[.int .i64 c0, .int .i64 f0, .slice (some ⟨g5, 0, none⟩) xs0.length xs0.length] 57)).cell? ⟨w5_.heap.size, 0, none⟩ = some (.int .i64 c0) ∧ (w5_.alloc (.cells #[.int .i64 c0, .int .i64 f0, .slice (some ⟨g5, 0, none⟩) xs0.length xs0.length] 57)).cell? ⟨w5_.heap.size, 1, none⟩ = some (.int .i64 f0) ∧ (w5_.alloc (.cells #[.int .i64 c0, .int .i64 f0, .slice (some ⟨g5, 0, none⟩) xs0.length xs0.length] 57)).cell? ⟨w5_.heap.size, 2, none⟩ = some (.slice (some ⟨g5, 0, none⟩) xs0.length xs0.length)) ∧ ((w5_.alloc (.cells #[.int .i64 c0, .int .i64 f0, .slice (some ⟨g5, 0, none⟩) xs0.length xs0.length] 57)).cell? ⟨(w.heap.size + 1), 0, none⟩ = some (.int .i64 c1_0) ∧ (w5_.alloc (.cells #[.int .i64 c0, .int .i64 f0, .slice (some ⟨g5, 0, none⟩) xs0.length xs0.length] 57)).cell? ⟨(w.heap.size + 1), 1, none⟩ = some (.int .i64 l1_1) ∧ (w5_.alloc (.cells #[.int .i64 c0, .int .i64 f0, .slice (some ⟨g5, 0, none⟩) xs0.length xs0.length] 57)).cell? ⟨(w.heap.size + 1), 2, none⟩ = some (.int .i64 h1_2) ∧ (w5_.alloc (.cells #[.int .i64 c0, .int .i64 f0, .slice (some ⟨g5, 0, none⟩) xs0.length xs0.length] 57)).cell? ⟨(w.heap.size + 1), 3, none⟩ = some (.int .i64 p1_3) ∧ (w5_.alloc (.cells #[.int .i64 c0, .int .i64 f0, .slice (some ⟨g5, 0, none⟩) xs0.length xs0.length] 57)).cell? ⟨(w.heap.size + 1), 4, none⟩ = some (.int .i64 s1_4)) := KS.out _ (Below.refl _ _)
      have FBX := Lib.hid (fun w' (hb : Below (w5_.alloc (.cells #[.int .i64 c0, .int .i64 f0, .slice (some ⟨g5, 0, none⟩) xs0.length xs0.length] 57)).heap.size (w5_.alloc (.cells #[.int .i64 c0, .int .i64 f0, .slice (some ⟨g5, 0, none⟩) xs0.length xs0.length] 57)) w') => (show Below w.heap.size w w' from FB.out.trans (hb.mono FN)))
      have HC := Lib.hid (show Below (w5_.alloc (.cells #[.int .i64 c0, .int .i64 f0, .slice (some ⟨g5, 0, none⟩) xs0.length xs0.length] 57)).heap.size (w5_.alloc (.cells #[.int .i64 c0, .int .i64 f0, .slice (some ⟨g5, 0, none⟩) xs0.length xs0.length] 57)) (w5_.alloc (.cells #[.int .i64 c0, .int .i64 f0, .slice (some ⟨g5, 0, none⟩) xs0.length xs0.length] 57)).drew from (Below.refl _ _).drew)
      replace X0 := Lib.hid X0.out.drew
      go_wp2
      go_region_held3 (fun w' => (w'.cell? ⟨w5_.heap.size, 0, none⟩ = some (.int .i64 c0) ∧ w'.cell? ⟨w5_.heap.size, 1, none⟩ = some (.int .i64 f0) ∧ w'.cell? ⟨w5_.heap.size, 2, none⟩ = some (.slice (some ⟨g5, 0, none⟩) xs0.length xs0.length)) ∧ (w'.cell? ⟨(w.heap.size + 1), 0, none⟩ = some (.int .i64 c1_0) ∧ w'.cell? ⟨(w.heap.size + 1), 1, none⟩ = some (.int .i64 l1_1) ∧ w'.cell? ⟨(w.heap.size + 1), 2, none⟩ = some (.int .i64 h1_2) ∧ w'.cell? ⟨(w.heap.size + 1), 3, none⟩ = some (.int .i64 p1_3) ∧ w'.cell? ⟨(w.heap.size + 1), 4, none⟩ = some (.int .i64 s1_4)))
        (first | (with_reducible exact KS.out _ HC.out) | (with_reducible exact KS.out _ (HC.out.alloc HC.out.size _)) | go_keep)
        (first
          | (go_at_call 28; ((with_reducible refine (TO1.out _).mono ?_); rintro e wt1 ⟨rfl, hbt1⟩; (try (replace X0 := Lib.hid (X0.out.sm (Sm.of_below hbt1) (by omega)))); replace HC := Lib.hid (HC.out.trans (hbt1.mono HC.out.size)); skip))
          | (go_at_call 41; ((with_reducible refine (IM.out _ _ X0.out.sl).mono ?_); rintro e w7_ ⟨rfl, hb7⟩; have hbf7 := HC.out.size; (try (replace X0 := Lib.hid (X0.out.sm (Sm.of_below hb7) (by omega)))); replace HC := Lib.hid (HC.out.trans (hb7.mono HC.out.size)); skip))
          | fail)
      all_goals
        replace CX0 := Lib.hid (CX0.out.below HC.out hlCX0)
        replace BX1 := Lib.hid (BX1.out.below HC.out hlBX1)
        replace BX0 := Lib.hid (BX0.out.sm (Sm.of_below HC.out) (by omega))
        replace FB := Lib.hid (FBX.out _ HC.out)
        have hzz7 := HC.out.size
        replace FN := Nat.le_trans FN hzz7
        clear hks KS HC FBX hlCX0 hlBX1
        clear hbf7
        clear xCX00 xCX01 xCX02
        clear xBX10 xBX11 xBX12 xBX13 xBX14
        clear hbt1
        have hlCX0 := CX0.out.lt
        have hlBX0 := BX0.out.lt
        obtain ⟨xCX00, xCX01, xCX02⟩ := CX0.out
        obtain ⟨xBX00, xBX01, xBX02⟩ := BX0.out
        have KS := Lib.hid (fun w' (hb : Below w7_.heap.size w7_ w') => (show (w'.cell? ⟨w5_.heap.size, 0, none⟩ = some (.int .i64 c0) ∧ w'.cell? ⟨w5_.heap.size, 1, none⟩ = some (.int .i64 f0) ∧ w'.cell? ⟨w5_.heap.size, 2, none⟩ = some (.slice (some ⟨g5, 0, none⟩) xs0.length xs0.length)) ∧ (w'.cell? ⟨w.heap.size, 0, none⟩ = some (.int .i64 c0) ∧ w'.cell? ⟨w.heap.size, 1, none⟩ = some (.int .i64 f0) ∧ w'.cell? ⟨w.heap.size, 2, none⟩ = some (.slice s0 xs0.length cap0)) from ⟨CX0.out.below hb hlCX0, BX0.out.below hb hlBX0⟩))
        have hks : (w7_.cell? ⟨w5_.heap.size, 0, none⟩ = some (.int .i64 c0) ∧ w7_.cell? ⟨w5_.heap.size, 1, none⟩ = some (.int .i64 f0) ∧ w7_.cell? ⟨w5_.heap.size, 2, none⟩ = some (.slice (some ⟨g5, 0, none⟩) xs0.length xs0.length)) ∧ (w7_.cell? ⟨w.heap.size, 0, none⟩ = some (.int .i64 c0) ∧ w7_.cell? ⟨w.heap.size, 1, none⟩ = some (.int .i64 f0) ∧ w7_.cell? ⟨w.heap.size, 2, none⟩ = some (.slice s0 xs0.length cap0)) := KS.out _ (Below.refl _ _)
        have FBX := Lib.hid (fun w' (hb : Below w7_.heap.size w7_ w') => (show Below w.heap.size w w' from FB.out.trans (hb.mono FN)))
        have HC := Lib.hid (show Below w7_.heap.size w7_ w7_.drew from (Below.refl _ _).drew)
        replace X0 := Lib.hid X0.out.drew
        go_wp2
        go_region_held3 (fun w' => (w'.cell? ⟨w5_.heap.size, 0, none⟩ = some (.int .i64 c0) ∧ w'.cell? ⟨w5_.heap.size, 1, none⟩ = some (.int .i64 f0) ∧ w'.cell? ⟨w5_.heap.size, 2, none⟩ = some (.slice (some ⟨g5, 0, none⟩) xs0.length xs0.length)) ∧ (w'.cell? ⟨w.heap.size, 0, none⟩ = some (.int .i64 c0) ∧ w'.cell? ⟨w.heap.size, 1, none⟩ = some (.int .i64 f0) ∧ w'.cell? ⟨w.heap.size, 2, none⟩ = some (.slice s0 xs0.length cap0)))
          (first | (with_reducible exact KS.out _ HC.out) | (with_reducible exact KS.out _ (HC.out.alloc HC.out.size _)) | go_keep)
          (first
            | (go_at_call 27; ((with_reducible refine (TO0.out _ (FBX.out _ HC.out)).mono ?_); rintro e wt0 ⟨gt0, rfl, hrowt0, hgt0, hbt0⟩; (try (replace X0 := Lib.hid (X0.out.sm (Sm.of_below hbt0) (by omega)))); (try (replace Y0 := Lib.hid (Y0.out.sm (Sm.of_below hbt0) (by omega)))); replace HC := Lib.hid (HC.out.trans (hbt0.mono HC.out.size)); have Y0 := Lib.hid (hrowt0.sli hgt0)))
            | (go_at_call 31; ((with_reducible refine (EX0.out _ _ _ _ _ X0.out.sl Y0.out.sl).mono ?_); rintro e w8_ ⟨rfl, hb8⟩; have hbf8 := HC.out.size; (try (replace X0 := Lib.hid (X0.out.sm (Sm.of_below hb8) (by omega)))); (try (replace Y0 := Lib.hid (Y0.out.sm (Sm.of_below hb8) (by omega)))); replace HC := Lib.hid (HC.out.trans (hb8.mono HC.out.size)); skip))
            | fail)
        all_goals
          replace CX0 := Lib.hid (CX0.out.below HC.out hlCX0)
          replace BX0 := Lib.hid (BX0.out.below HC.out hlBX0)
          replace BX1 := Lib.hid (BX1.out.sm (Sm.of_below HC.out) (by omega))
          replace FB := Lib.hid (FBX.out _ HC.out)
          have hzz8 := HC.out.size
          replace FN := Nat.le_trans FN hzz8
          clear hks KS HC FBX hlCX0 hlBX0
          clear hbf8
          clear xCX00 xCX01 xCX02
          clear xBX00 xBX01 xBX02
          clear hrowt0 hgt0
          clear hbt0
          clear Y0
          go_wp2
          go_ret
          exact ⟨rfl, FB.out⟩
end Go.Proofs.Ytdoledckkbcihaa.fnExactRecoverCells
