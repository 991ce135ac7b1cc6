/- FnExactFluxText: the law's walk. -/
import Derived.Test.YtifbfppfnlhcbaaDoorSm
import Derived.Test.YtifbfppfnlhcbaaDoorOpenFlux
import Derived.Test.YtifbfppfnlhcbaaDoorBoxes
import Derived.Test.YtifbfppfnlhcbaaDoorFtxIm
import Derived.Test.YtifbfppfnlhcbaaDoorFtxSp
import Derived.Test.YtifbfppfnlhcbaaDoorDecTab
namespace Go.Proofs.YtifbfppfnlhcbaaDoor.fnExactFluxText
open Go.RowKit
set_option linter.unusedVariables false
set_option maxRecDepth 20000 in
set_option maxHeartbeats 8000000 in
theorem walk (c0 f0 : Int) (s0 : Option Addr) (xs0 : List Int) (cap0 : Nat) (w : World) (hw : 0 < w.heap.size) (htab : DecTab w) (w0 : FluxArg w s0 xs0) :
    Calls Tryd.prog 3 #[.agg #[.int .i64 c0, .int .i64 f0, .slice s0 xs0.length cap0]] w fun e w' => e = .returned (.bool true) ∧ Below w.heap.size w w' := by
  obtain ⟨hm0, hsl0⟩ := w0
  by_cases hk0 : xs0.length ≤ 1048576
  case neg =>
    have SN0 := Lib.hid (fun w' => szFlux_no c0 f0 s0 xs0.length cap0 1048576 w' (by omega) hm0 (by omega))
    clear hsl0
    go_enter Tryd.func3, Tryd.ntmps3
    have FB := Lib.hid (show Below w.heap.size w w from Below.refl _ _)
    have FN : w.heap.size ≤ w.heap.size := Nat.le_refl _
    have hS := Sm.alloc w (.cells #[.int .i64 c0, .int .i64 f0, .slice s0 xs0.length cap0] 24)
    have BX0 := Lib.hid (FluxAt.new w c0 f0 s0 xs0.length cap0 24 w.heap.size rfl)
    replace FB := Lib.hid (below_new FB.out FN (.cells #[.int .i64 c0, .int .i64 f0, .slice s0 xs0.length cap0] 24))
    have hq1 : (w.alloc (.cells #[.int .i64 c0, .int .i64 f0, .slice s0 xs0.length cap0] 24)).heap.size = w.heap.size + 1 := by simp
    replace FN : w.heap.size ≤ (w.alloc (.cells #[.int .i64 c0, .int .i64 f0, .slice s0 xs0.length cap0] 24)).heap.size := by omega
    clear hS
    obtain ⟨xBX00, xBX01, xBX02⟩ := BX0.out
    go_wp2_with fail
    refine (SN0.out _).mono ?_
    rintro e w2_ ⟨rfl, hb2⟩
    clear xBX00 xBX01 xBX02
    have hS := Sm.of_below hb2
    replace BX0 := Lib.hid (BX0.out.sm hS (by omega))
    replace FB := Lib.hid (below_step FB.out FN hb2)
    have hzw2_ := hb2.size
    replace FN := Nat.le_trans FN hzw2_
    clear hS hb2
    go_wp2
    go_ret
    exact ⟨rfl, FB.out⟩
  case pos =>
    have sz0 := fun w' => szFlux_yes c0 f0 s0 xs0.length cap0 1048576 w' (by omega) hk0
    obtain ⟨lf0, hlf0⟩ : ∃ m, 1048576 - xs0.length = m := ⟨_, rfl⟩
    rw [hlf0] at sz0
    have hlfb0 : ¬ ((lf0 : Int) < 0) := by omega
    have hlfc0 : lf0 ≤ 1048576 := by omega
    have SZ0 := Lib.hid sz0; clear sz0
    have hn0 : xs0.length ≤ 1048576 := by omega
    have TO0 := Lib.hid (fun w' (hb : Below w.heap.size w w') => toFlux_any c0 f0 s0 xs0 cap0 w' hn0 (hsl0.below hb (Nat.le_refl _)))
    have EX0 := Lib.hid (fun x d y d' w' (h1 : SlA w' x xs0) (h2 : SlA w' y xs0) => (eqFlux_any c0 f0 x xs0 d c0 f0 y xs0 d' w' (by omega) (by omega) h1 h2).mono (fun e w'' ⟨he, hw⟩ => (show e = Ending.returned (.bool true) ∧ _ from ⟨by rw [he]; simp [fluxEq], hw⟩)))
    have hsp := fun g0 w' (h0 : SlA w' (some ⟨g0, 0, none⟩) xs0) => specFluxText_any c0 f0 (some ⟨g0, 0, none⟩) xs0.length xs0 hn0 w' h0
    have him := fun g0 w' (h0 : SlA w' (some ⟨g0, 0, none⟩) xs0) (hbt : Below w.heap.size w w') => fluxText_any c0 f0 (some ⟨g0, 0, none⟩) xs0.length xs0 hn0 w' h0 (Nat.lt_of_lt_of_le hw hbt.size) (htab.below hbt hw)
    generalize fluxT c0 f0 xs0 = r0 at hsp him
    have SP := Lib.hid hsp; have IM := Lib.hid him; clear hsp him htab hsl0
    go_enter Tryd.func3, Tryd.ntmps3
    have FB := Lib.hid (show Below w.heap.size w w from Below.refl _ _)
    have FN : w.heap.size ≤ w.heap.size := Nat.le_refl _
    have hS := Sm.alloc w (.cells #[.int .i64 c0, .int .i64 f0, .slice s0 xs0.length cap0] 24)
    have BX0 := Lib.hid (FluxAt.new w c0 f0 s0 xs0.length cap0 24 w.heap.size rfl)
    replace FB := Lib.hid (below_new FB.out FN (.cells #[.int .i64 c0, .int .i64 f0, .slice s0 xs0.length cap0] 24))
    have hq1 : (w.alloc (.cells #[.int .i64 c0, .int .i64 f0, .slice s0 xs0.length cap0] 24)).heap.size = w.heap.size + 1 := by simp
    replace FN : w.heap.size ≤ (w.alloc (.cells #[.int .i64 c0, .int .i64 f0, .slice s0 xs0.length cap0] 24)).heap.size := by omega
    clear hS
    obtain ⟨xBX00, xBX01, xBX02⟩ := BX0.out
    go_wp2_with fail
    refine (SZ0.out _).mono ?_
    rintro e w2_ ⟨rfl, hb2⟩
    clear xBX00 xBX01 xBX02
    have hS := Sm.of_below hb2
    replace BX0 := Lib.hid (BX0.out.sm hS (by omega))
    replace FB := Lib.hid (below_step FB.out FN hb2)
    have hzw2_ := hb2.size
    replace FN := Nat.le_trans FN hzw2_
    clear hS hb2
    obtain ⟨xBX00, xBX01, xBX02⟩ := BX0.out
    go_wp2_with fail
    refine (TO0.out _ FB.out).mono ?_
    rintro e w3_ ⟨g3, rfl, hrow3, hg3, hb3⟩
    clear xBX00 xBX01 xBX02
    have hS := Sm.of_below hb3
    replace BX0 := Lib.hid (BX0.out.sm hS (by omega))
    replace FB := Lib.hid (below_step FB.out FN hb3)
    have hzw3_ := hb3.size
    replace FN := Nat.le_trans FN hzw3_
    clear hS hb3
    have R0 := Lib.hid (hrow3.sli hg3)
    clear hrow3 hg3
    go_wp2_with fail
    refine (SP.out _ _ R0.out.sl).mono ?_
    rintro e w4_ ⟨rfl, hb4⟩
    have hS := Sm.of_below hb4
    replace BX0 := Lib.hid (BX0.out.sm hS (by omega))
    replace R0 := Lib.hid (R0.out.sm hS (by omega))
    replace FB := Lib.hid (below_step FB.out FN hb4)
    have hzw4_ := hb4.size
    replace FN := Nat.le_trans FN hzw4_
    clear hS hb4
    clear R0
    obtain ⟨xBX00, xBX01, xBX02⟩ := BX0.out
    go_wp2_with fail
    refine (TO0.out _ FB.out).mono ?_
    rintro e w5_ ⟨g5, rfl, hrow5, hg5, hb5⟩
    clear xBX00 xBX01 xBX02
    have hS := Sm.of_below hb5
    replace BX0 := Lib.hid (BX0.out.sm hS (by omega))
    replace FB := Lib.hid (below_step FB.out FN hb5)
    have hzw5_ := hb5.size
    replace FN := Nat.le_trans FN hzw5_
    clear hS hb5
    have X0 := Lib.hid (hrow5.sli hg5)
    clear hrow5 hg5
    have hS := Sm.alloc w5_ (.cells #[.int .i64 c0, .int .i64 f0, .slice (some ⟨g5, 0, none⟩) xs0.length xs0.length] 27)
    replace BX0 := Lib.hid (BX0.out.sm hS (by omega))
    replace X0 := Lib.hid (X0.out.sm hS (by omega))
    have CX0 := Lib.hid (FluxAt.new w5_ c0 f0 (some ⟨g5, 0, none⟩) xs0.length xs0.length 27 w5_.heap.size rfl)
    replace FB := Lib.hid (below_new FB.out FN (.cells #[.int .i64 c0, .int .i64 f0, .slice (some ⟨g5, 0, none⟩) xs0.length xs0.length] 27))
    have hq6 : (w5_.alloc (.cells #[.int .i64 c0, .int .i64 f0, .slice (some ⟨g5, 0, none⟩) xs0.length xs0.length] 27)).heap.size = w5_.heap.size + 1 := by simp
    replace FN : w.heap.size ≤ (w5_.alloc (.cells #[.int .i64 c0, .int .i64 f0, .slice (some ⟨g5, 0, none⟩) xs0.length xs0.length] 27)).heap.size := by omega
    clear hS
    obtain ⟨xCX00, xCX01, xCX02⟩ := CX0.out
    go_wp2_with fail
    refine (IM.out _ _ X0.out.sl FB.out).mono ?_
    rintro e w7_ ⟨rfl, hb7⟩
    clear xCX00 xCX01 xCX02
    have hS := Sm.of_below hb7
    replace BX0 := Lib.hid (BX0.out.sm hS (by omega))
    replace X0 := Lib.hid (X0.out.sm hS (by omega))
    replace CX0 := Lib.hid (CX0.out.sm hS (by omega))
    replace FB := Lib.hid (below_step FB.out FN hb7)
    have hzw7_ := hb7.size
    replace FN := Nat.le_trans FN hzw7_
    clear hS hb7
    have hlCX0 := CX0.out.lt
    have hlBX0 := BX0.out.lt
    obtain ⟨xCX00, xCX01, xCX02⟩ := CX0.out
    obtain ⟨xBX00, xBX01, xBX02⟩ := BX0.out
    have KS := Lib.hid (fun w' (hb : Below w7_.heap.size w7_ w') => (show (w'.cell? ⟨w5_.heap.size, 0, none⟩ = some (.int .i64 c0) ∧ w'.cell? ⟨w5_.heap.size, 1, none⟩ = some (.int .i64 f0) ∧ w'.cell? ⟨w5_.heap.size, 2, none⟩ = some (.slice (some ⟨g5, 0, none⟩) xs0.length xs0.length)) ∧ (w'.cell? ⟨w.heap.size, 0, none⟩ = some (.int .i64 c0) ∧ w'.cell? ⟨w.heap.size, 1, none⟩ = some (.int .i64 f0) ∧ w'.cell? ⟨w.heap.size, 2, none⟩ = some (.slice s0 xs0.length cap0)) from ⟨CX0.out.below hb hlCX0, BX0.out.below hb hlBX0⟩))
    have hks : (w7_.cell? ⟨w5_.heap.size, 0, none⟩ = some (.int .i64 c0) ∧ w7_.cell? ⟨w5_.heap.size, 1, none⟩ = some (.int .i64 f0) ∧ w7_.cell? ⟨w5_.heap.size, 2, none⟩ = some (.slice (some ⟨g5, 0, none⟩) xs0.length xs0.length)) ∧ (w7_.cell? ⟨w.heap.size, 0, none⟩ = some (.int .i64 c0) ∧ w7_.cell? ⟨w.heap.size, 1, none⟩ = some (.int .i64 f0) ∧ w7_.cell? ⟨w.heap.size, 2, none⟩ = some (.slice s0 xs0.length cap0)) := KS.out _ (Below.refl _ _)
    have FBX := Lib.hid (fun w' (hb : Below w7_.heap.size w7_ w') => (show Below w.heap.size w w' from FB.out.trans (hb.mono FN)))
    have HC := Lib.hid (show Below w7_.heap.size w7_ w7_.drew from (Below.refl _ _).drew)
    replace X0 := Lib.hid X0.out.drew
    go_wp2
    go_region_held3 (fun w' => (w'.cell? ⟨w5_.heap.size, 0, none⟩ = some (.int .i64 c0) ∧ w'.cell? ⟨w5_.heap.size, 1, none⟩ = some (.int .i64 f0) ∧ w'.cell? ⟨w5_.heap.size, 2, none⟩ = some (.slice (some ⟨g5, 0, none⟩) xs0.length xs0.length)) ∧ (w'.cell? ⟨w.heap.size, 0, none⟩ = some (.int .i64 c0) ∧ w'.cell? ⟨w.heap.size, 1, none⟩ = some (.int .i64 f0) ∧ w'.cell? ⟨w.heap.size, 2, none⟩ = some (.slice s0 xs0.length cap0)))
      (first | (with_reducible exact KS.out _ HC.out) | (with_reducible exact KS.out _ (HC.out.alloc HC.out.size _)) | go_keep)
      (first
        | (go_at_call 8; ((with_reducible refine (TO0.out _ (FBX.out _ HC.out)).mono ?_); rintro e wt0 ⟨gt0, rfl, hrowt0, hgt0, hbt0⟩; (try (replace X0 := Lib.hid (X0.out.sm (Sm.of_below hbt0) (by omega)))); (try (replace Y0 := Lib.hid (Y0.out.sm (Sm.of_below hbt0) (by omega)))); replace HC := Lib.hid (HC.out.trans (hbt0.mono HC.out.size)); have Y0 := Lib.hid (hrowt0.sli hgt0)))
        | (go_at_call 10; ((with_reducible refine (EX0.out _ _ _ _ _ X0.out.sl Y0.out.sl).mono ?_); rintro e w8_ ⟨rfl, hb8⟩; have hbf8 := HC.out.size; (try (replace X0 := Lib.hid (X0.out.sm (Sm.of_below hb8) (by omega)))); (try (replace Y0 := Lib.hid (Y0.out.sm (Sm.of_below hb8) (by omega)))); replace HC := Lib.hid (HC.out.trans (hb8.mono HC.out.size)); skip))
        | fail)
    all_goals
      replace CX0 := Lib.hid (CX0.out.below HC.out hlCX0)
      replace BX0 := Lib.hid (BX0.out.below HC.out hlBX0)
      replace FB := Lib.hid (FBX.out _ HC.out)
      have hzz8 := HC.out.size
      replace FN := Nat.le_trans FN hzz8
      clear hks KS HC FBX hlCX0 hlBX0
      clear hbf8
      clear xCX00 xCX01 xCX02
      clear xBX00 xBX01 xBX02
      clear hrowt0 hgt0
      clear hbt0
      clear Y0
      go_wp2
      go_ret
      exact ⟨rfl, FB.out⟩
end Go.Proofs.YtifbfppfnlhcbaaDoor.fnExactFluxText
