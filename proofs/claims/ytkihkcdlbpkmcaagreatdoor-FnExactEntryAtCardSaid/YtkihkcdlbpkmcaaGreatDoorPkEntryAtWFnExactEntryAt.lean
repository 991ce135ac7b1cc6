/- FnExactEntryAt: the law's walk. -/
import Derived.Test.YtkihkcdlbpkmcaaGreatDoorPkEntryAtB
import Derived.Test.YtkihkcdlbpkmcaaGreatDoorPkEntryAtEntAt
import Derived.Test.YtkihkcdlbpkmcaaGreatDoorPkEntryAtDEntAt
import Derived.Test.YtkihkcdlbpkmcaaGreatDoorPkEntryAtC
namespace Go.Proofs.YtkihkcdlbpkmcaaGreatDoor.fnExactEntryAt
open Go.RowKit
set_option maxRecDepth 20000
set_option linter.unusedVariables false
set_option maxRecDepth 20000 in
set_option maxHeartbeats 8000000 in
theorem walk (s0 : Option Addr) (xs0 : List StringV) (cap0 : Nat) (a1 : Int) (w : World) (w0 : RecArg rowString w s0 xs0) (v0 : ∀ e ∈ xs0, e.f0.size ≤ maxLen) (w1 : (Lit.int .i64 a1).wf = true) :
    Calls Tryz.prog 3 #[.slice s0 xs0.length cap0, .int .i64 a1] w fun e w' => e = .returned (.bool true) ∧ Below w.heap.size w w' := by
  obtain ⟨hm0, hsl0⟩ := w0
  by_cases hk0 : wtString xs0 ≤ 1048576
  case neg =>
    have SN0 := Lib.hid (fun w' (hb : Below w.heap.size w w') => (szStringS_any s0 xs0 cap0 1048576 w' (by omega) hm0 v0 (hsl0.below hb (Nat.le_refl _))).mono (fun e w'' ⟨he, hw⟩ => (show e = Ending.returned (.int .i64 (-1)) ∧ Below w'.heap.size w' w'' from ⟨by rw [he]; unfold szV; rw [if_neg hk0], hw⟩)))
    clear hsl0
    go_enter Tryz.func3, Tryz.ntmps3
    have FB := Lib.hid (show Below w.heap.size w w from Below.refl _ _)
    have FN : w.heap.size ≤ w.heap.size := Nat.le_refl _
    go_wp2_with fail
    refine (SN0.out _ FB.out).mono ?_
    rintro e w1_ ⟨rfl, hb1⟩
    have hS := Sm.of_below hb1
    replace FB := Lib.hid (below_step FB.out FN hb1)
    have hzw1_ := hb1.size
    replace FN := Nat.le_trans FN hzw1_
    clear hS hb1
    go_wp2
    go_ret
    exact ⟨rfl, FB.out⟩
  case pos =>
    have sz0 := fun w' (hb : Below w.heap.size w w') => (szStringS_any s0 xs0 cap0 1048576 w' (by omega) hm0 v0 (hsl0.below hb (Nat.le_refl _))).mono (fun e w'' ⟨he, hw⟩ => (show e = Ending.returned (.int .i64 ((1048576 - wtString xs0 : Nat) : Int)) ∧ Below w'.heap.size w' w'' from ⟨by rw [he]; unfold szV; rw [if_pos hk0], hw⟩))
    obtain ⟨lf0, hlf0⟩ : ∃ m, 1048576 - wtString xs0 = m := ⟨_, rfl⟩
    rw [hlf0] at sz0
    have hlfb0 : ¬ ((lf0 : Int) < 0) := by omega
    have hlfc0 : lf0 ≤ 1048576 := by omega
    have SZ0 := Lib.hid sz0; clear sz0
    have hn0 : xs0.length ≤ 1048576 := by have := wtString_len xs0; omega
    have hv0 : ∀ e ∈ xs0, e.f0.size ≤ 1048576 := fun e he => by have := wtString_at (Nat.le_refl _) e he; omega
    have TO0 := Lib.hid (fun w' (hb : Below w.heap.size w w') => toStringS_any s0 xs0 cap0 w' hn0 (hsl0.below hb (Nat.le_refl _)))
    have EX0 := Lib.hid (fun x d y d' w' (h1 : SlS rowString w' x xs0) (h2 : SlS rowString w' y xs0) => eqStringS_any true x y xs0 xs0 d d' w' (by simp) (by omega) (by omega) h1 h2)
    have hsp := fun g0 w' (h0 : SlS rowString w' (some ⟨g0, 0, none⟩) xs0) => specEntryAt_any (some ⟨g0, 0, none⟩) xs0.length xs0 a1 hn0 hv0 w' h0
    have him := fun g0 w' (h0 : SlS rowString w' (some ⟨g0, 0, none⟩) xs0) => entryAt_any (some ⟨g0, 0, none⟩) xs0.length xs0 a1 hn0 hv0 w' h0
    generalize eaV xs0 a1 = r0 at hsp him
    have EQ0 := Lib.hid (fun w' => (eqChainEntry_any r0 r0 w').mono (fun e w'' ⟨he, hw⟩ => (show e = Ending.returned (.bool true) ∧ Below w'.heap.size w' w'' from ⟨by rw [he, sameChainEntry_iff.2 rfl], hw⟩)))
    generalize eaC xs0 a1 = r1 at hsp him
    have hvq1 : (r1 != r1) = false := by simp
    have SP := Lib.hid hsp; have IM := Lib.hid him; clear hsp him hsl0
    go_enter Tryz.func3, Tryz.ntmps3
    have FB := Lib.hid (show Below w.heap.size w w from Below.refl _ _)
    have FN : w.heap.size ≤ w.heap.size := Nat.le_refl _
    go_wp2_with fail
    refine (SZ0.out _ FB.out).mono ?_
    rintro e w1_ ⟨rfl, hb1⟩
    have hS := Sm.of_below hb1
    replace FB := Lib.hid (below_step FB.out FN hb1)
    have hzw1_ := hb1.size
    replace FN := Nat.le_trans FN hzw1_
    clear hS hb1
    go_wp2_with fail
    refine (TO0.out _ FB.out).mono ?_
    rintro e w2_ ⟨g2, rfl, hrow2, hg2, hb2⟩
    have hS := Sm.of_below hb2
    replace FB := Lib.hid (below_step FB.out FN hb2)
    have hzw2_ := hb2.size
    replace FN := Nat.le_trans FN hzw2_
    clear hS hb2
    have R0 := Lib.hid (hrow2.sli hg2)
    clear hrow2 hg2
    go_wp2_with fail
    refine (SP.out _ _ R0.out.sl).mono ?_
    rintro e w3_ ⟨rfl, hb3⟩
    have hS := Sm.of_below hb3
    replace R0 := Lib.hid (R0.out.sm hS (by omega))
    replace FB := Lib.hid (below_step FB.out FN hb3)
    have hzw3_ := hb3.size
    replace FN := Nat.le_trans FN hzw3_
    clear hS hb3
    clear R0
    have hS := Sm.alloc w3_ (.cells #[.string r0.f0, .int .i64 r0.f1, .int .i64 r0.f2, .bool r0.f3, .bool r0.f4] 25)
    have RS0 := Lib.hid (BoxAt.new w3_ #[.string r0.f0, .int .i64 r0.f1, .int .i64 r0.f2, .bool r0.f3, .bool r0.f4] 25 w3_.heap.size rfl)
    replace FB := Lib.hid (below_new FB.out FN (.cells #[.string r0.f0, .int .i64 r0.f1, .int .i64 r0.f2, .bool r0.f3, .bool r0.f4] 25))
    have hq4 : (w3_.alloc (.cells #[.string r0.f0, .int .i64 r0.f1, .int .i64 r0.f2, .bool r0.f3, .bool r0.f4] 25)).heap.size = w3_.heap.size + 1 := by simp
    replace FN : w.heap.size ≤ (w3_.alloc (.cells #[.string r0.f0, .int .i64 r0.f1, .int .i64 r0.f2, .bool r0.f3, .bool r0.f4] 25)).heap.size := by omega
    clear hS
    go_wp2_with fail
    refine (TO0.out _ FB.out).mono ?_
    rintro e w5_ ⟨g5, rfl, hrow5, hg5, hb5⟩
    have hS := Sm.of_below hb5
    replace RS0 := Lib.hid (RS0.out.sm hS (by omega))
    replace FB := Lib.hid (below_step FB.out FN hb5)
    have hzw5_ := hb5.size
    replace FN := Nat.le_trans FN hzw5_
    clear hS hb5
    have X0 := Lib.hid (hrow5.sli hg5)
    clear hrow5 hg5
    go_wp2_with fail
    refine (IM.out _ _ X0.out.sl).mono ?_
    rintro e w6_ ⟨rfl, hb6⟩
    have hS := Sm.of_below hb6
    replace RS0 := Lib.hid (RS0.out.sm hS (by omega))
    replace X0 := Lib.hid (X0.out.sm hS (by omega))
    replace FB := Lib.hid (below_step FB.out FN hb6)
    have hzw6_ := hb6.size
    replace FN := Nat.le_trans FN hzw6_
    clear hS hb6
    have hS := Sm.alloc w6_ (.cells #[.string r0.f0, .int .i64 r0.f1, .int .i64 r0.f2, .bool r0.f3, .bool r0.f4] 25)
    replace RS0 := Lib.hid (RS0.out.sm hS (by omega))
    replace X0 := Lib.hid (X0.out.sm hS (by omega))
    have RG0 := Lib.hid (BoxAt.new w6_ #[.string r0.f0, .int .i64 r0.f1, .int .i64 r0.f2, .bool r0.f3, .bool r0.f4] 25 w6_.heap.size rfl)
    replace FB := Lib.hid (below_new FB.out FN (.cells #[.string r0.f0, .int .i64 r0.f1, .int .i64 r0.f2, .bool r0.f3, .bool r0.f4] 25))
    have hq7 : (w6_.alloc (.cells #[.string r0.f0, .int .i64 r0.f1, .int .i64 r0.f2, .bool r0.f3, .bool r0.f4] 25)).heap.size = w6_.heap.size + 1 := by simp
    replace FN : w.heap.size ≤ (w6_.alloc (.cells #[.string r0.f0, .int .i64 r0.f1, .int .i64 r0.f2, .bool r0.f3, .bool r0.f4] 25)).heap.size := by omega
    clear hS
    have xRG00 := RG0.out 0 _ rfl
    have xRG01 := RG0.out 1 _ rfl
    have xRG02 := RG0.out 2 _ rfl
    have xRG03 := RG0.out 3 _ rfl
    have xRG04 := RG0.out 4 _ rfl
    have xRS00 := RS0.out 0 _ rfl
    have xRS01 := RS0.out 1 _ rfl
    have xRS02 := RS0.out 2 _ rfl
    have xRS03 := RS0.out 3 _ rfl
    have xRS04 := RS0.out 4 _ rfl
    go_wp2_with fail
    refine (EQ0.out _).mono ?_
    rintro e w8_ ⟨rfl, hb8⟩
    clear xRG00 xRG01 xRG02 xRG03 xRG04
    clear xRS00 xRS01 xRS02 xRS03 xRS04
    have hS := Sm.of_below hb8
    replace RS0 := Lib.hid (RS0.out.sm hS (by omega))
    replace X0 := Lib.hid (X0.out.sm hS (by omega))
    replace RG0 := Lib.hid (RG0.out.sm hS (by omega))
    replace FB := Lib.hid (below_step FB.out FN hb8)
    have hzw8_ := hb8.size
    replace FN := Nat.le_trans FN hzw8_
    clear hS hb8
    go_wp2_with fail
    refine (TO0.out _ FB.out).mono ?_
    rintro e w9_ ⟨g9, rfl, hrow9, hg9, hb9⟩
    have hS := Sm.of_below hb9
    replace RS0 := Lib.hid (RS0.out.sm hS (by omega))
    replace X0 := Lib.hid (X0.out.sm hS (by omega))
    replace RG0 := Lib.hid (RG0.out.sm hS (by omega))
    replace FB := Lib.hid (below_step FB.out FN hb9)
    have hzw9_ := hb9.size
    replace FN := Nat.le_trans FN hzw9_
    clear hS hb9
    have Y0 := Lib.hid (hrow9.sli hg9)
    clear hrow9 hg9
    go_wp2_with fail
    refine (EX0.out _ _ _ _ _ X0.out.sl Y0.out.sl).mono ?_
    rintro e w10_ ⟨rfl, hb10⟩
    have hS := Sm.of_below hb10
    replace RS0 := Lib.hid (RS0.out.sm hS (by omega))
    replace X0 := Lib.hid (X0.out.sm hS (by omega))
    replace RG0 := Lib.hid (RG0.out.sm hS (by omega))
    replace Y0 := Lib.hid (Y0.out.sm hS (by omega))
    replace FB := Lib.hid (below_step FB.out FN hb10)
    have hzw10_ := hb10.size
    replace FN := Nat.le_trans FN hzw10_
    clear hS hb10
    clear Y0
    go_wp2
    go_ret
    exact ⟨rfl, FB.out⟩
end Go.Proofs.YtkihkcdlbpkmcaaGreatDoor.fnExactEntryAt
