/- FnExactAllBlocks: the law's walk. -/
import Derived.Test.YtjnabncfkogigaaPkAllBlocksB
import Derived.Test.YtjnabncfkogigaaPkAllBlocksAllBlk
import Derived.Test.YtjnabncfkogigaaPkAllBlocksAllBlkSp
import Derived.Test.YtjnabncfkogigaaPkAllBlocksNestDevice
import Derived.Test.YtjnabncfkogigaaPkAllBlocksMarkSString
import Derived.Test.YtjnabncfkogigaaPkAllBlocksMarkNestDevice
import Derived.Test.YtjnabncfkogigaaPkAllBlocksMarkKit
namespace Go.Proofs.Ytjnabncfkogigaa.fnExactAllBlocks
open Go.RowKit
set_option linter.unusedVariables false
set_option maxRecDepth 20000 in
set_option maxHeartbeats 8000000 in
theorem walk (x0 : DeviceV) (s0_0 s0_1 : Option Addr) (cap0_0 cap0_1 : Nat) (w : World) (w0 : ArgDevice w s0_0 s0_1 x0) :
    Calls Try.prog 10 #[.agg #[.int .i64 x0.f0.f0, .int .i64 x0.f0.f1, .int .i64 x0.f0.f2, .int .i64 x0.f0.f3, .slice s0_0 x0.f0.f4.length cap0_0, .int .i64 x0.f1, .int .i64 x0.f2, .slice s0_1 x0.f3.length cap0_1]] w fun e w' => e = .returned (.bool true) ∧ Below w.heap.size w w' := by
  obtain ⟨hm0, hsl0, v0⟩ := w0
  by_cases hk0 : wtDevice x0 ≤ 1048576
  case neg =>
    have SN0 := Lib.hid (fun w' (hb : Below w.heap.size w w') => (szDevice_any x0 s0_0 s0_1 cap0_0 cap0_1 1048576 w' (by omega) hm0 v0 (hsl0.below hb (Nat.le_refl _))).mono (fun e w'' ⟨he, hw⟩ => (show e = Ending.returned (.int .i64 (-1)) ∧ Below w'.heap.size w' w'' from ⟨by rw [he]; unfold szV; rw [if_neg hk0], hw⟩)))
    clear hsl0
    go_enter Try.func10, Try.ntmps10
    have FB := Lib.hid (show Below w.heap.size w w from Below.refl _ _)
    have FN : w.heap.size ≤ w.heap.size := Nat.le_refl _
    have hS := Sm.alloc w (.cells #[.int .i64 x0.f0.f0, .int .i64 x0.f0.f1, .int .i64 x0.f0.f2, .int .i64 x0.f0.f3, .slice s0_0 x0.f0.f4.length cap0_0, .int .i64 x0.f1, .int .i64 x0.f2, .slice s0_1 x0.f3.length cap0_1] 27)
    have BX0 := Lib.hid (BoxAt.new w #[.int .i64 x0.f0.f0, .int .i64 x0.f0.f1, .int .i64 x0.f0.f2, .int .i64 x0.f0.f3, .slice s0_0 x0.f0.f4.length cap0_0, .int .i64 x0.f1, .int .i64 x0.f2, .slice s0_1 x0.f3.length cap0_1] 27 w.heap.size rfl)
    replace FB := Lib.hid (below_new FB.out FN (.cells #[.int .i64 x0.f0.f0, .int .i64 x0.f0.f1, .int .i64 x0.f0.f2, .int .i64 x0.f0.f3, .slice s0_0 x0.f0.f4.length cap0_0, .int .i64 x0.f1, .int .i64 x0.f2, .slice s0_1 x0.f3.length cap0_1] 27))
    have hq1 : (w.alloc (.cells #[.int .i64 x0.f0.f0, .int .i64 x0.f0.f1, .int .i64 x0.f0.f2, .int .i64 x0.f0.f3, .slice s0_0 x0.f0.f4.length cap0_0, .int .i64 x0.f1, .int .i64 x0.f2, .slice s0_1 x0.f3.length cap0_1] 27)).heap.size = w.heap.size + 1 := by simp
    replace FN : w.heap.size ≤ (w.alloc (.cells #[.int .i64 x0.f0.f0, .int .i64 x0.f0.f1, .int .i64 x0.f0.f2, .int .i64 x0.f0.f3, .slice s0_0 x0.f0.f4.length cap0_0, .int .i64 x0.f1, .int .i64 x0.f2, .slice s0_1 x0.f3.length cap0_1] 27)).heap.size := by omega
    clear hS
    have xBX00 := BX0.out 0 _ rfl
    have xBX01 := BX0.out 1 _ rfl
    have xBX02 := BX0.out 2 _ rfl
    have xBX03 := BX0.out 3 _ rfl
    have xBX04 := BX0.out 4 _ rfl
    have xBX05 := BX0.out 5 _ rfl
    have xBX06 := BX0.out 6 _ rfl
    have xBX07 := BX0.out 7 _ rfl
    go_wp2_with fail
    refine (SN0.out _ FB.out).mono ?_
    rintro e w2_ ⟨rfl, hb2⟩
    clear xBX00 xBX01 xBX02 xBX03 xBX04 xBX05 xBX06 xBX07
    have hS := Sm.of_below hb2
    replace BX0 := Lib.hid (BX0.out.sm hS (by omega))
    replace FB := Lib.hid (below_step FB.out FN hb2)
    have hzw2_ := hb2.size
    replace FN := Nat.le_trans FN hzw2_
    clear hS hb2
    go_wp2
    go_ret
    exact ⟨rfl, FB.out⟩
  case pos =>
    have sz0 := fun w' (hb : Below w.heap.size w w') => (szDevice_any x0 s0_0 s0_1 cap0_0 cap0_1 1048576 w' (by omega) hm0 v0 (hsl0.below hb (Nat.le_refl _))).mono (fun e w'' ⟨he, hw⟩ => (show e = Ending.returned (.int .i64 ((1048576 - wtDevice x0 : Nat) : Int)) ∧ Below w'.heap.size w' w'' from ⟨by rw [he]; unfold szV; rw [if_pos hk0], hw⟩))
    obtain ⟨lf0, hlf0⟩ : ∃ m, 1048576 - wtDevice x0 = m := ⟨_, rfl⟩
    rw [hlf0] at sz0
    have hlfb0 : ¬ ((lf0 : Int) < 0) := by omega
    have hlfc0 : lf0 ≤ 1048576 := by omega
    have SZ0 := Lib.hid sz0; clear sz0
    have hn0 : LenDevice 1048576 x0 := wtDevice_len (by omega)
    have hv0 : StrDevice 1048576 x0 := wtDevice_str (by omega)
    have TO0 := Lib.hid (fun w' (hb : Below w.heap.size w w') => toDevice_any x0 s0_0 s0_1 cap0_0 cap0_1 w' hn0 (hsl0.below hb (Nat.le_refl _)))
    have EX0 := Lib.hid (fun y0 y1 d0 d1 z0 z1 e0 e1 w' (h1 : SlDevice w' y0 y1 x0) (h2 : SlDevice w' z0 z1 x0) => eqDevice_any true x0 y0 y1 d0 d1 x0 z0 z1 e0 e1 w' (by simp) (wtDevice_len (by omega)) (wtDevice_len (by omega)) h1 h2)
    have hsp := fun g0_0 g0_1 w' (h0 : SlDevice w' (some ⟨g0_0, 0, none⟩) (some ⟨g0_1, 0, none⟩) x0) => specAllBlocks_any x0 (some ⟨g0_0, 0, none⟩) (some ⟨g0_1, 0, none⟩) (x0.f0.f4.length) (x0.f3.length) hn0 hv0 w' h0
    have him := fun g0_0 g0_1 w' (h0 : SlDevice w' (some ⟨g0_0, 0, none⟩) (some ⟨g0_1, 0, none⟩) x0) => allBlocks_any x0 (some ⟨g0_0, 0, none⟩) (some ⟨g0_1, 0, none⟩) (x0.f0.f4.length) (x0.f3.length) hn0 hv0 w' h0
    obtain ⟨hR0, hR1⟩ := allV_len hn0
    generalize allV x0 = rs0 at hsp him hR0
    have heq0 := fun x d y d' w' (h1 : SlS rowString w' x rs0) (h2 : SlS rowString w' y rs0) => eqStringS_any true x y rs0 rs0 d d' w' (by simp) (by omega) (by omega) h1 h2
    have hmk0 := fun x d B C w' hC h => markStringS_sm x rs0 d 1 B C w' (by omega) (by omega) (by omega) hC h
    have hhd0 := fun x d w' (h : SlS rowString w' x (mkS mkString 1 1 rs0.length)) => heldStringS_any x rs0.length d 1 w' (by omega) (by omega) (by omega) h
    unfold MarkedS at hmk0
    have hkb0 : 1 + 1 * rs0.length ≤ 1048577 := by omega
    have hkp0 : 0 < 1 + 1 * rs0.length := by omega
    obtain ⟨kr0, hkr0⟩ : ∃ m, 1 + 1 * rs0.length = m := ⟨_, rfl⟩
    rw [hkr0] at hmk0 hhd0 hkb0 hkp0
    have hkz0 : ¬ ((kr0 : Int) < 0) := by omega
    have EQ0 := Lib.hid heq0; have MK0 := Lib.hid hmk0; have HD0 := Lib.hid hhd0; clear heq0 hmk0 hhd0
    generalize lostV x0 = rs1 at hsp him hR1
    have heq1 := fun x d y d' w' (h1 : SlA w' x rs1) (h2 : SlA w' y rs1) => eqInt64S_any x y rs1 rs1 d d' w' (by omega) (by omega) h1 h2
    have heqq1 : (rs1 == rs1) = true := by simp
    rw [heqq1] at heq1
    have hmk1 := fun x d B C w' hC h => markInt_sm x rs1 d kr0 B C w' (by omega) (by omega) hC h
    have hhd1 : ∀ x d w', SlA w' x (fromK ((kr0 : Nat) : Int) rs1.length) → Calls Try.prog 39 #[.slice x rs1.length d, .int .i64 ((kr0 : Nat) : Int)] w' (fun e w'' => e = .returned (.int .i64 ((kr0 + rs1.length : Nat) : Int)) ∧ Below w'.heap.size w' w'') := fun x d w' h => (heldInt_any x rs1.length d kr0 w' (by omega) (by omega) h).mono (fun e w'' ⟨he, hw⟩ => ⟨he, hw ▸ Below.refl _ _⟩)
    unfold Marked at hmk1
    have hkb1 : kr0 + rs1.length ≤ 2097153 := by omega
    have hkp1 : 0 < kr0 + rs1.length := by omega
    obtain ⟨kr1, hkr1⟩ : ∃ m, kr0 + rs1.length = m := ⟨_, rfl⟩
    rw [hkr1] at hmk1 hhd1 hkb1 hkp1
    have hkz1 : ¬ ((kr1 : Int) < 0) := by omega
    have EQ1 := Lib.hid heq1; have MK1 := Lib.hid hmk1; have HD1 := Lib.hid hhd1; clear heq1 hmk1 hhd1
    have hkk : ((kr1 : Int) != (kr1 : Int)) = false := by simp
    have hmx0 := fun g0 g1 B C w' hC h => markDevice_sm x0 (some ⟨g0, 0, none⟩) (some ⟨g1, 0, none⟩) (x0.f0.f4.length) (x0.f3.length) 1 B C w' hn0 (by omega) (by omega) hC h
    unfold MarkedNDevice at hmx0
    have hxb0 : 1 + cntDevice x0 ≤ 16777216 := by have := cntDevice_le hn0; omega
    have hxp0 : 0 < 1 + cntDevice x0 := by omega
    obtain ⟨kx0, hkx0⟩ : ∃ m, 1 + cntDevice x0 = m := ⟨_, rfl⟩
    rw [hkx0] at hmx0 hxb0 hxp0
    have hkxz0 : ¬ ((kx0 : Int) < 0) := by omega
    have MX0 := Lib.hid hmx0; clear hmx0
    generalize allC x0 = r2 at hsp him
    have hvq2 : (r2 != r2) = false := by simp
    have SP := Lib.hid hsp; have IM := Lib.hid him; clear hsp him hsl0
    go_enter Try.func10, Try.ntmps10
    have FB := Lib.hid (show Below w.heap.size w w from Below.refl _ _)
    have FN : w.heap.size ≤ w.heap.size := Nat.le_refl _
    have hS := Sm.alloc w (.cells #[.int .i64 x0.f0.f0, .int .i64 x0.f0.f1, .int .i64 x0.f0.f2, .int .i64 x0.f0.f3, .slice s0_0 x0.f0.f4.length cap0_0, .int .i64 x0.f1, .int .i64 x0.f2, .slice s0_1 x0.f3.length cap0_1] 27)
    have BX0 := Lib.hid (BoxAt.new w #[.int .i64 x0.f0.f0, .int .i64 x0.f0.f1, .int .i64 x0.f0.f2, .int .i64 x0.f0.f3, .slice s0_0 x0.f0.f4.length cap0_0, .int .i64 x0.f1, .int .i64 x0.f2, .slice s0_1 x0.f3.length cap0_1] 27 w.heap.size rfl)
    replace FB := Lib.hid (below_new FB.out FN (.cells #[.int .i64 x0.f0.f0, .int .i64 x0.f0.f1, .int .i64 x0.f0.f2, .int .i64 x0.f0.f3, .slice s0_0 x0.f0.f4.length cap0_0, .int .i64 x0.f1, .int .i64 x0.f2, .slice s0_1 x0.f3.length cap0_1] 27))
    have hq1 : (w.alloc (.cells #[.int .i64 x0.f0.f0, .int .i64 x0.f0.f1, .int .i64 x0.f0.f2, .int .i64 x0.f0.f3, .slice s0_0 x0.f0.f4.length cap0_0, .int .i64 x0.f1, .int .i64 x0.f2, .slice s0_1 x0.f3.length cap0_1] 27)).heap.size = w.heap.size + 1 := by simp
    replace FN : w.heap.size ≤ (w.alloc (.cells #[.int .i64 x0.f0.f0, .int .i64 x0.f0.f1, .int .i64 x0.f0.f2, .int .i64 x0.f0.f3, .slice s0_0 x0.f0.f4.length cap0_0, .int .i64 x0.f1, .int .i64 x0.f2, .slice s0_1 x0.f3.length cap0_1] 27)).heap.size := by omega
    clear hS
    have xBX00 := BX0.out 0 _ rfl
    have xBX01 := BX0.out 1 _ rfl
    have xBX02 := BX0.out 2 _ rfl
    have xBX03 := BX0.out 3 _ rfl
    have xBX04 := BX0.out 4 _ rfl
    have xBX05 := BX0.out 5 _ rfl
    have xBX06 := BX0.out 6 _ rfl
    have xBX07 := BX0.out 7 _ rfl
    go_wp2_with fail
    refine (SZ0.out _ FB.out).mono ?_
    rintro e w2_ ⟨rfl, hb2⟩
    clear xBX00 xBX01 xBX02 xBX03 xBX04 xBX05 xBX06 xBX07
    have hS := Sm.of_below hb2
    replace BX0 := Lib.hid (BX0.out.sm hS (by omega))
    replace FB := Lib.hid (below_step FB.out FN hb2)
    have hzw2_ := hb2.size
    replace FN := Nat.le_trans FN hzw2_
    clear hS hb2
    have xBX00 := BX0.out 0 _ rfl
    have xBX01 := BX0.out 1 _ rfl
    have xBX02 := BX0.out 2 _ rfl
    have xBX03 := BX0.out 3 _ rfl
    have xBX04 := BX0.out 4 _ rfl
    have xBX05 := BX0.out 5 _ rfl
    have xBX06 := BX0.out 6 _ rfl
    have xBX07 := BX0.out 7 _ rfl
    go_wp2_with fail
    refine (TO0.out _ FB.out).mono ?_
    rintro e w3_ ⟨g3_0, g3_1, rfl, hrow3, hb3⟩
    clear xBX00 xBX01 xBX02 xBX03 xBX04 xBX05 xBX06 xBX07
    have hS := Sm.of_below hb3
    replace BX0 := Lib.hid (BX0.out.sm hS (by omega))
    replace FB := Lib.hid (below_step FB.out FN hb3)
    have hzw3_ := hb3.size
    replace FN := Nat.le_trans FN hzw3_
    clear hS hb3
    have R0 := Lib.hid hrow3
    clear hrow3
    go_wp2_with fail
    refine (SP.out _ _ _ R0.out.sl).mono ?_
    rintro e w4_ ⟨s4_0, d4_0, s4_1, d4_1, rfl, hso4, hsq4, hb4⟩
    have hS := Sm.of_below hb4
    replace BX0 := Lib.hid (BX0.out.sm hS (by omega))
    replace R0 := Lib.hid (R0.out.sm hS (by omega))
    replace FB := Lib.hid (below_step FB.out FN hb4)
    have hzw4_ := hb4.size
    replace FN := Nat.le_trans FN hzw4_
    clear hS hb4
    have RS0 := Lib.hid hso4.within
    clear hso4
    have RS1 := Lib.hid hsq4.within
    clear hsq4
    clear R0
    have xBX00 := BX0.out 0 _ rfl
    have xBX01 := BX0.out 1 _ rfl
    have xBX02 := BX0.out 2 _ rfl
    have xBX03 := BX0.out 3 _ rfl
    have xBX04 := BX0.out 4 _ rfl
    have xBX05 := BX0.out 5 _ rfl
    have xBX06 := BX0.out 6 _ rfl
    have xBX07 := BX0.out 7 _ rfl
    go_wp2_with fail
    refine (TO0.out _ FB.out).mono ?_
    rintro e w5_ ⟨g5_0, g5_1, rfl, hrow5, hb5⟩
    clear xBX00 xBX01 xBX02 xBX03 xBX04 xBX05 xBX06 xBX07
    have hS := Sm.of_below hb5
    replace BX0 := Lib.hid (BX0.out.sm hS (by omega))
    replace RS0 := Lib.hid (RS0.out.sm hS (by omega))
    replace RS1 := Lib.hid (RS1.out.sm hS (by omega))
    replace FB := Lib.hid (below_step FB.out FN hb5)
    have hzw5_ := hb5.size
    replace FN := Nat.le_trans FN hzw5_
    clear hS hb5
    have X0 := Lib.hid hrow5
    clear hrow5
    have hS := Sm.alloc w5_ (.cells #[.int .i64 x0.f0.f0, .int .i64 x0.f0.f1, .int .i64 x0.f0.f2, .int .i64 x0.f0.f3, .slice (some ⟨g5_0, 0, none⟩) x0.f0.f4.length x0.f0.f4.length, .int .i64 x0.f1, .int .i64 x0.f2, .slice (some ⟨g5_1, 0, none⟩) x0.f3.length x0.f3.length] 34)
    replace BX0 := Lib.hid (BX0.out.sm hS (by omega))
    replace RS0 := Lib.hid (RS0.out.sm hS (by omega))
    replace RS1 := Lib.hid (RS1.out.sm hS (by omega))
    replace X0 := Lib.hid (X0.out.sm hS (by omega))
    have CX0 := Lib.hid (BoxAt.new w5_ #[.int .i64 x0.f0.f0, .int .i64 x0.f0.f1, .int .i64 x0.f0.f2, .int .i64 x0.f0.f3, .slice (some ⟨g5_0, 0, none⟩) x0.f0.f4.length x0.f0.f4.length, .int .i64 x0.f1, .int .i64 x0.f2, .slice (some ⟨g5_1, 0, none⟩) x0.f3.length x0.f3.length] 34 w5_.heap.size rfl)
    replace FB := Lib.hid (below_new FB.out FN (.cells #[.int .i64 x0.f0.f0, .int .i64 x0.f0.f1, .int .i64 x0.f0.f2, .int .i64 x0.f0.f3, .slice (some ⟨g5_0, 0, none⟩) x0.f0.f4.length x0.f0.f4.length, .int .i64 x0.f1, .int .i64 x0.f2, .slice (some ⟨g5_1, 0, none⟩) x0.f3.length x0.f3.length] 34))
    have hq6 : (w5_.alloc (.cells #[.int .i64 x0.f0.f0, .int .i64 x0.f0.f1, .int .i64 x0.f0.f2, .int .i64 x0.f0.f3, .slice (some ⟨g5_0, 0, none⟩) x0.f0.f4.length x0.f0.f4.length, .int .i64 x0.f1, .int .i64 x0.f2, .slice (some ⟨g5_1, 0, none⟩) x0.f3.length x0.f3.length] 34)).heap.size = w5_.heap.size + 1 := by simp
    replace FN : w.heap.size ≤ (w5_.alloc (.cells #[.int .i64 x0.f0.f0, .int .i64 x0.f0.f1, .int .i64 x0.f0.f2, .int .i64 x0.f0.f3, .slice (some ⟨g5_0, 0, none⟩) x0.f0.f4.length x0.f0.f4.length, .int .i64 x0.f1, .int .i64 x0.f2, .slice (some ⟨g5_1, 0, none⟩) x0.f3.length x0.f3.length] 34)).heap.size := by omega
    clear hS
    have xCX00 := CX0.out 0 _ rfl
    have xCX01 := CX0.out 1 _ rfl
    have xCX02 := CX0.out 2 _ rfl
    have xCX03 := CX0.out 3 _ rfl
    have xCX04 := CX0.out 4 _ rfl
    have xCX05 := CX0.out 5 _ rfl
    have xCX06 := CX0.out 6 _ rfl
    have xCX07 := CX0.out 7 _ rfl
    go_wp2_with fail
    refine (IM.out _ _ _ X0.out.sl).mono ?_
    rintro e w7_ ⟨s7_0, d7_0, s7_1, d7_1, rfl, hso7, hsq7, hb7⟩
    clear xCX00 xCX01 xCX02 xCX03 xCX04 xCX05 xCX06 xCX07
    have hS := Sm.of_below hb7
    replace BX0 := Lib.hid (BX0.out.sm hS (by omega))
    replace RS0 := Lib.hid (RS0.out.sm hS (by omega))
    replace RS1 := Lib.hid (RS1.out.sm hS (by omega))
    replace X0 := Lib.hid (X0.out.sm hS (by omega))
    replace CX0 := Lib.hid (CX0.out.sm hS (by omega))
    replace FB := Lib.hid (below_step FB.out FN hb7)
    have hzw7_ := hb7.size
    replace FN := Nat.le_trans FN hzw7_
    clear hS hb7
    have RG0 := Lib.hid hso7.within
    clear hso7
    have RG1 := Lib.hid hsq7.within
    clear hsq7
    go_wp2_with fail
    refine (EQ0.out _ _ _ _ _ RG0.out.sl RS0.out.sl).mono ?_
    rintro e w8_ ⟨rfl, hb8⟩
    have hS := Sm.of_below hb8
    replace BX0 := Lib.hid (BX0.out.sm hS (by omega))
    replace RS0 := Lib.hid (RS0.out.sm hS (by omega))
    replace RS1 := Lib.hid (RS1.out.sm hS (by omega))
    replace X0 := Lib.hid (X0.out.sm hS (by omega))
    replace CX0 := Lib.hid (CX0.out.sm hS (by omega))
    replace RG0 := Lib.hid (RG0.out.sm hS (by omega))
    replace RG1 := Lib.hid (RG1.out.sm hS (by omega))
    replace FB := Lib.hid (below_step FB.out FN hb8)
    have hzw8_ := hb8.size
    replace FN := Nat.le_trans FN hzw8_
    clear hS hb8
    go_wp2_with fail
    refine (EQ1.out _ _ _ _ _ RG1.out.sl RS1.out.sl).mono ?_
    rintro e w9_ ⟨rfl, hb9⟩
    have hS := Sm.of_below hb9
    replace BX0 := Lib.hid (BX0.out.sm hS (by omega))
    replace RS0 := Lib.hid (RS0.out.sm hS (by omega))
    replace RS1 := Lib.hid (RS1.out.sm hS (by omega))
    replace X0 := Lib.hid (X0.out.sm hS (by omega))
    replace CX0 := Lib.hid (CX0.out.sm hS (by omega))
    replace RG0 := Lib.hid (RG0.out.sm hS (by omega))
    replace RG1 := Lib.hid (RG1.out.sm hS (by omega))
    replace FB := Lib.hid (below_step FB.out FN hb9)
    have hzw9_ := hb9.size
    replace FN := Nat.le_trans FN hzw9_
    clear hS hb9
    have hlCX0 := CX0.out.lt (by simp)
    have hlBX0 := BX0.out.lt (by simp)
    have xCX00 := CX0.out 0 _ rfl
    have xCX01 := CX0.out 1 _ rfl
    have xCX02 := CX0.out 2 _ rfl
    have xCX03 := CX0.out 3 _ rfl
    have xCX04 := CX0.out 4 _ rfl
    have xCX05 := CX0.out 5 _ rfl
    have xCX06 := CX0.out 6 _ rfl
    have xCX07 := CX0.out 7 _ rfl
    have xBX00 := BX0.out 0 _ rfl
    have xBX01 := BX0.out 1 _ rfl
    have xBX02 := BX0.out 2 _ rfl
    have xBX03 := BX0.out 3 _ rfl
    have xBX04 := BX0.out 4 _ rfl
    have xBX05 := BX0.out 5 _ rfl
    have xBX06 := BX0.out 6 _ rfl
    have xBX07 := BX0.out 7 _ rfl
    have KS := Lib.hid (fun w' (hb : Below w9_.heap.size w9_ w') => (show (w'.cell? ⟨w5_.heap.size, 0, none⟩ = some (.int .i64 x0.f0.f0) ∧ w'.cell? ⟨w5_.heap.size, 1, none⟩ = some (.int .i64 x0.f0.f1) ∧ w'.cell? ⟨w5_.heap.size, 2, none⟩ = some (.int .i64 x0.f0.f2) ∧ w'.cell? ⟨w5_.heap.size, 3, none⟩ = some (.int .i64 x0.f0.f3) ∧ w'.cell? ⟨w5_.heap.size, 4, none⟩ = some (.slice (some ⟨g5_0, 0, none⟩) x0.f0.f4.length x0.f0.f4.length) ∧ w'.cell? ⟨w5_.heap.size, 5, none⟩ = some (.int .i64 x0.f1) ∧ w'.cell? ⟨w5_.heap.size, 6, none⟩ = some (.int .i64 x0.f2) ∧ w'.cell? ⟨w5_.heap.size, 7, none⟩ = some (.slice (some ⟨g5_1, 0, none⟩) x0.f3.length x0.f3.length)) ∧ (w'.cell? ⟨w.heap.size, 0, none⟩ = some (.int .i64 x0.f0.f0) ∧ w'.cell? ⟨w.heap.size, 1, none⟩ = some (.int .i64 x0.f0.f1) ∧ w'.cell? ⟨w.heap.size, 2, none⟩ = some (.int .i64 x0.f0.f2) ∧ w'.cell? ⟨w.heap.size, 3, none⟩ = some (.int .i64 x0.f0.f3) ∧ w'.cell? ⟨w.heap.size, 4, none⟩ = some (.slice s0_0 x0.f0.f4.length cap0_0) ∧ w'.cell? ⟨w.heap.size, 5, none⟩ = some (.int .i64 x0.f1) ∧ w'.cell? ⟨w.heap.size, 6, none⟩ = some (.int .i64 x0.f2) ∧ w'.cell? ⟨w.heap.size, 7, none⟩ = some (.slice s0_1 x0.f3.length cap0_1)) from ⟨⟨(CX0.out.below hb hlCX0) 0 _ rfl, (CX0.out.below hb hlCX0) 1 _ rfl, (CX0.out.below hb hlCX0) 2 _ rfl, (CX0.out.below hb hlCX0) 3 _ rfl, (CX0.out.below hb hlCX0) 4 _ rfl, (CX0.out.below hb hlCX0) 5 _ rfl, (CX0.out.below hb hlCX0) 6 _ rfl, (CX0.out.below hb hlCX0) 7 _ rfl⟩, ⟨(BX0.out.below hb hlBX0) 0 _ rfl, (BX0.out.below hb hlBX0) 1 _ rfl, (BX0.out.below hb hlBX0) 2 _ rfl, (BX0.out.below hb hlBX0) 3 _ rfl, (BX0.out.below hb hlBX0) 4 _ rfl, (BX0.out.below hb hlBX0) 5 _ rfl, (BX0.out.below hb hlBX0) 6 _ rfl, (BX0.out.below hb hlBX0) 7 _ rfl⟩⟩))
    have hks : (w9_.cell? ⟨w5_.heap.size, 0, none⟩ = some (.int .i64 x0.f0.f0) ∧ w9_.cell? ⟨w5_.heap.size, 1, none⟩ = some (.int .i64 x0.f0.f1) ∧ w9_.cell? ⟨w5_.heap.size, 2, none⟩ = some (.int .i64 x0.f0.f2) ∧ w9_.cell? ⟨w5_.heap.size, 3, none⟩ = some (.int .i64 x0.f0.f3) ∧ w9_.cell? ⟨w5_.heap.size, 4, none⟩ = some (.slice (some ⟨g5_0, 0, none⟩) x0.f0.f4.length x0.f0.f4.length) ∧ w9_.cell? ⟨w5_.heap.size, 5, none⟩ = some (.int .i64 x0.f1) ∧ w9_.cell? ⟨w5_.heap.size, 6, none⟩ = some (.int .i64 x0.f2) ∧ w9_.cell? ⟨w5_.heap.size, 7, none⟩ = some (.slice (some ⟨g5_1, 0, none⟩) x0.f3.length x0.f3.length)) ∧ (w9_.cell? ⟨w.heap.size, 0, none⟩ = some (.int .i64 x0.f0.f0) ∧ w9_.cell? ⟨w.heap.size, 1, none⟩ = some (.int .i64 x0.f0.f1) ∧ w9_.cell? ⟨w.heap.size, 2, none⟩ = some (.int .i64 x0.f0.f2) ∧ w9_.cell? ⟨w.heap.size, 3, none⟩ = some (.int .i64 x0.f0.f3) ∧ w9_.cell? ⟨w.heap.size, 4, none⟩ = some (.slice s0_0 x0.f0.f4.length cap0_0) ∧ w9_.cell? ⟨w.heap.size, 5, none⟩ = some (.int .i64 x0.f1) ∧ w9_.cell? ⟨w.heap.size, 6, none⟩ = some (.int .i64 x0.f2) ∧ w9_.cell? ⟨w.heap.size, 7, none⟩ = some (.slice s0_1 x0.f3.length cap0_1)) := KS.out _ (Below.refl _ _)
    have FBX := Lib.hid (fun w' (hb : Below w9_.heap.size w9_ w') => (show Below w.heap.size w w' from FB.out.trans (hb.mono FN)))
    have HC := Lib.hid (show Below w9_.heap.size w9_ w9_.drew from (Below.refl _ _).drew)
    replace RS0 := Lib.hid RS0.out.drew
    replace RS1 := Lib.hid RS1.out.drew
    replace X0 := Lib.hid X0.out.drew
    replace RG0 := Lib.hid RG0.out.drew
    replace RG1 := Lib.hid RG1.out.drew
    go_wp2
    go_region_held3 (fun w' => (w'.cell? ⟨w5_.heap.size, 0, none⟩ = some (.int .i64 x0.f0.f0) ∧ w'.cell? ⟨w5_.heap.size, 1, none⟩ = some (.int .i64 x0.f0.f1) ∧ w'.cell? ⟨w5_.heap.size, 2, none⟩ = some (.int .i64 x0.f0.f2) ∧ w'.cell? ⟨w5_.heap.size, 3, none⟩ = some (.int .i64 x0.f0.f3) ∧ w'.cell? ⟨w5_.heap.size, 4, none⟩ = some (.slice (some ⟨g5_0, 0, none⟩) x0.f0.f4.length x0.f0.f4.length) ∧ w'.cell? ⟨w5_.heap.size, 5, none⟩ = some (.int .i64 x0.f1) ∧ w'.cell? ⟨w5_.heap.size, 6, none⟩ = some (.int .i64 x0.f2) ∧ w'.cell? ⟨w5_.heap.size, 7, none⟩ = some (.slice (some ⟨g5_1, 0, none⟩) x0.f3.length x0.f3.length)) ∧ (w'.cell? ⟨w.heap.size, 0, none⟩ = some (.int .i64 x0.f0.f0) ∧ w'.cell? ⟨w.heap.size, 1, none⟩ = some (.int .i64 x0.f0.f1) ∧ w'.cell? ⟨w.heap.size, 2, none⟩ = some (.int .i64 x0.f0.f2) ∧ w'.cell? ⟨w.heap.size, 3, none⟩ = some (.int .i64 x0.f0.f3) ∧ w'.cell? ⟨w.heap.size, 4, none⟩ = some (.slice s0_0 x0.f0.f4.length cap0_0) ∧ w'.cell? ⟨w.heap.size, 5, none⟩ = some (.int .i64 x0.f1) ∧ w'.cell? ⟨w.heap.size, 6, none⟩ = some (.int .i64 x0.f2) ∧ w'.cell? ⟨w.heap.size, 7, none⟩ = some (.slice s0_1 x0.f3.length cap0_1)))
      (first | (with_reducible exact KS.out _ HC.out) | (with_reducible exact KS.out _ (HC.out.alloc HC.out.size _)) | go_keep)
      (first
        | (go_at_call 13; ((with_reducible refine (TO0.out _ (FBX.out _ HC.out)).mono ?_); rintro e wt0 ⟨gt0_0, gt0_1, rfl, hrowt0, hbt0⟩; (try (replace RS0 := Lib.hid (RS0.out.sm (Sm.of_below hbt0) (by omega)))); (try (replace RS1 := Lib.hid (RS1.out.sm (Sm.of_below hbt0) (by omega)))); (try (replace X0 := Lib.hid (X0.out.sm (Sm.of_below hbt0) (by omega)))); (try (replace RG0 := Lib.hid (RG0.out.sm (Sm.of_below hbt0) (by omega)))); (try (replace RG1 := Lib.hid (RG1.out.sm (Sm.of_below hbt0) (by omega)))); (try (replace Y0 := Lib.hid (Y0.out.sm (Sm.of_below hbt0) (by omega)))); replace HC := Lib.hid (HC.out.trans (hbt0.mono HC.out.size)); have Y0 := Lib.hid hrowt0))
        | (go_at_call 15; ((with_reducible refine (EX0.out _ _ _ _ _ _ _ _ _ X0.out.sl Y0.out.sl).mono ?_); rintro e w10_ ⟨rfl, hb10⟩; have hbf10 := HC.out.size; (try (replace RS0 := Lib.hid (RS0.out.sm (Sm.of_below hb10) (by omega)))); (try (replace RS1 := Lib.hid (RS1.out.sm (Sm.of_below hb10) (by omega)))); (try (replace X0 := Lib.hid (X0.out.sm (Sm.of_below hb10) (by omega)))); (try (replace RG0 := Lib.hid (RG0.out.sm (Sm.of_below hb10) (by omega)))); (try (replace RG1 := Lib.hid (RG1.out.sm (Sm.of_below hb10) (by omega)))); (try (replace Y0 := Lib.hid (Y0.out.sm (Sm.of_below hb10) (by omega)))); replace HC := Lib.hid (HC.out.trans (hb10.mono HC.out.size)); skip))
        | fail)
    all_goals
      replace CX0 := Lib.hid (CX0.out.below HC.out hlCX0)
      replace BX0 := Lib.hid (BX0.out.below HC.out hlBX0)
      replace FB := Lib.hid (FBX.out _ HC.out)
      have hzz10 := HC.out.size
      replace FN := Nat.le_trans FN hzz10
      clear hks KS HC FBX hlCX0 hlBX0
      clear hbf10
      clear xCX00 xCX01 xCX02 xCX03 xCX04 xCX05 xCX06 xCX07
      clear xBX00 xBX01 xBX02 xBX03 xBX04 xBX05 xBX06 xBX07
      clear hrowt0
      clear hbt0
      clear Y0
      have xCX00 := CX0.out 0 _ rfl
      have xCX01 := CX0.out 1 _ rfl
      have xCX02 := CX0.out 2 _ rfl
      have xCX03 := CX0.out 3 _ rfl
      have xCX04 := CX0.out 4 _ rfl
      have xCX05 := CX0.out 5 _ rfl
      have xCX06 := CX0.out 6 _ rfl
      have xCX07 := CX0.out 7 _ rfl
      go_wp2_with fail
      refine (MX0.out _ _ w4_.heap.size w5_.heap.size _ (by omega) (X0.out.mono (by omega) (by omega))).mono ?_
      rintro e w11_ ⟨rfl, hmr11, hmb11, hms11⟩
      clear xCX00 xCX01 xCX02 xCX03 xCX04 xCX05 xCX06 xCX07
      clear X0
      replace BX0 := Lib.hid (BX0.out.sm hms11 (by omega))
      replace RS0 := Lib.hid (RS0.out.sm hms11 (by omega))
      replace RS1 := Lib.hid (RS1.out.sm hms11 (by omega))
      replace CX0 := Lib.hid (CX0.out.sm hms11 (by omega))
      replace RG0 := Lib.hid (RG0.out.sm hms11 (by omega))
      replace RG1 := Lib.hid (RG1.out.sm hms11 (by omega))
      replace FB := Lib.hid (FB.out.trans (hmb11 _ (by omega) FN))
      have hzm11 := hms11.size
      replace FN := Nat.le_trans FN hzm11
      clear hmb11 hms11 hmr11
      go_wp2_with fail
      refine (EQ0.out _ _ _ _ _ RG0.out.sl RS0.out.sl).mono ?_
      rintro e w12_ ⟨rfl, hb12⟩
      have hS := Sm.of_below hb12
      replace BX0 := Lib.hid (BX0.out.sm hS (by omega))
      replace RS0 := Lib.hid (RS0.out.sm hS (by omega))
      replace RS1 := Lib.hid (RS1.out.sm hS (by omega))
      replace CX0 := Lib.hid (CX0.out.sm hS (by omega))
      replace RG0 := Lib.hid (RG0.out.sm hS (by omega))
      replace RG1 := Lib.hid (RG1.out.sm hS (by omega))
      replace FB := Lib.hid (below_step FB.out FN hb12)
      have hzw12_ := hb12.size
      replace FN := Nat.le_trans FN hzw12_
      clear hS hb12
      go_wp2_with fail
      refine (EQ1.out _ _ _ _ _ RG1.out.sl RS1.out.sl).mono ?_
      rintro e w13_ ⟨rfl, hb13⟩
      have hS := Sm.of_below hb13
      replace BX0 := Lib.hid (BX0.out.sm hS (by omega))
      replace RS0 := Lib.hid (RS0.out.sm hS (by omega))
      replace RS1 := Lib.hid (RS1.out.sm hS (by omega))
      replace CX0 := Lib.hid (CX0.out.sm hS (by omega))
      replace RG0 := Lib.hid (RG0.out.sm hS (by omega))
      replace RG1 := Lib.hid (RG1.out.sm hS (by omega))
      replace FB := Lib.hid (below_step FB.out FN hb13)
      have hzw13_ := hb13.size
      replace FN := Nat.le_trans FN hzw13_
      clear hS hb13
      obtain ⟨lo0, hi0, N0, hi_0, hb_0, hc_0, O0⟩ := RG0.out.narrow
      go_wp2_with fail
      refine (MK0.out _ _ lo0 hi0 _ hi_0 N0).mono ?_
      rintro e w14_ ⟨rfl, hmr14, hmb14, hms14⟩
      have hmw14 : Sm (w5_.alloc (.cells #[.int .i64 x0.f0.f0, .int .i64 x0.f0.f1, .int .i64 x0.f0.f2, .int .i64 x0.f0.f3, .slice (some ⟨g5_0, 0, none⟩) x0.f0.f4.length x0.f0.f4.length, .int .i64 x0.f1, .int .i64 x0.f2, .slice (some ⟨g5_1, 0, none⟩) x0.f3.length x0.f3.length] 34)).heap.size w7_.heap.size w13_ w14_ := ⟨hms14.size, fun b hb hp => hms14.block b hb (by omega)⟩
      replace RG1 := Lib.hid (RG1.out.past hms14 O0 (by decide))
      clear RG0
      replace BX0 := Lib.hid (BX0.out.sm hmw14 (by omega))
      replace RS0 := Lib.hid (RS0.out.sm hmw14 (by omega))
      replace RS1 := Lib.hid (RS1.out.sm hmw14 (by omega))
      replace CX0 := Lib.hid (CX0.out.sm hmw14 (by omega))
      replace FB := Lib.hid (FB.out.trans (hmb14 _ (by omega) FN))
      have hzm14 := hms14.size
      replace FN := Nat.le_trans FN hzm14
      have RM0 := Lib.hid (hmr14.within' (B := (w5_.alloc (.cells #[.int .i64 x0.f0.f0, .int .i64 x0.f0.f1, .int .i64 x0.f0.f2, .int .i64 x0.f0.f3, .slice (some ⟨g5_0, 0, none⟩) x0.f0.f4.length x0.f0.f4.length, .int .i64 x0.f1, .int .i64 x0.f2, .slice (some ⟨g5_1, 0, none⟩) x0.f3.length x0.f3.length] 34)).heap.size) (C := w7_.heap.size) (fun g hg => by omega))
      clear hmb14 hms14 hmr14 hmw14 N0 hi_0 hb_0 hc_0 O0
      obtain ⟨lo1, hi1, N1, hi_1, hb_1, hc_1, O1⟩ := RG1.out.narrow
      go_wp2_with fail
      refine (MK1.out _ _ lo1 hi1 _ hi_1 N1).mono ?_
      rintro e w15_ ⟨rfl, hmr15, hmb15, hms15⟩
      have hmw15 : Sm (w5_.alloc (.cells #[.int .i64 x0.f0.f0, .int .i64 x0.f0.f1, .int .i64 x0.f0.f2, .int .i64 x0.f0.f3, .slice (some ⟨g5_0, 0, none⟩) x0.f0.f4.length x0.f0.f4.length, .int .i64 x0.f1, .int .i64 x0.f2, .slice (some ⟨g5_1, 0, none⟩) x0.f3.length x0.f3.length] 34)).heap.size w7_.heap.size w14_ w15_ := ⟨hms15.size, fun b hb hp => hms15.block b hb (by omega)⟩
      replace RM0 := Lib.hid (RM0.out.past hms15 O1 (by decide))
      clear RG1
      replace BX0 := Lib.hid (BX0.out.sm hmw15 (by omega))
      replace RS0 := Lib.hid (RS0.out.sm hmw15 (by omega))
      replace RS1 := Lib.hid (RS1.out.sm hmw15 (by omega))
      replace CX0 := Lib.hid (CX0.out.sm hmw15 (by omega))
      replace FB := Lib.hid (FB.out.trans (hmb15 _ (by omega) FN))
      have hzm15 := hms15.size
      replace FN := Nat.le_trans FN hzm15
      have RM1 := Lib.hid (hmr15.within' (B := (w5_.alloc (.cells #[.int .i64 x0.f0.f0, .int .i64 x0.f0.f1, .int .i64 x0.f0.f2, .int .i64 x0.f0.f3, .slice (some ⟨g5_0, 0, none⟩) x0.f0.f4.length x0.f0.f4.length, .int .i64 x0.f1, .int .i64 x0.f2, .slice (some ⟨g5_1, 0, none⟩) x0.f3.length x0.f3.length] 34)).heap.size) (C := w7_.heap.size) (fun g hg => by omega))
      clear hmb15 hms15 hmr15 hmw15 N1 hi_1 hb_1 hc_1 O1
      go_wp2_with fail
      refine (HD0.out _ _ _ RM0.out.sl).mono ?_
      rintro e w16_ ⟨rfl, hb16⟩
      have hS := Sm.of_below hb16
      replace BX0 := Lib.hid (BX0.out.sm hS (by omega))
      replace RS0 := Lib.hid (RS0.out.sm hS (by omega))
      replace RS1 := Lib.hid (RS1.out.sm hS (by omega))
      replace CX0 := Lib.hid (CX0.out.sm hS (by omega))
      replace RM0 := Lib.hid (RM0.out.sm hS (by omega))
      replace RM1 := Lib.hid (RM1.out.sm hS (by omega))
      replace FB := Lib.hid (below_step FB.out FN hb16)
      have hzw16_ := hb16.size
      replace FN := Nat.le_trans FN hzw16_
      clear hS hb16
      go_wp2_with fail
      refine (HD1.out _ _ _ RM1.out.sl).mono ?_
      rintro e w17_ ⟨rfl, hb17⟩
      have hS := Sm.of_below hb17
      replace BX0 := Lib.hid (BX0.out.sm hS (by omega))
      replace RS0 := Lib.hid (RS0.out.sm hS (by omega))
      replace RS1 := Lib.hid (RS1.out.sm hS (by omega))
      replace CX0 := Lib.hid (CX0.out.sm hS (by omega))
      replace RM0 := Lib.hid (RM0.out.sm hS (by omega))
      replace RM1 := Lib.hid (RM1.out.sm hS (by omega))
      replace FB := Lib.hid (below_step FB.out FN hb17)
      have hzw17_ := hb17.size
      replace FN := Nat.le_trans FN hzw17_
      clear hS hb17
      have xBX00 := BX0.out 0 _ rfl
      have xBX01 := BX0.out 1 _ rfl
      have xBX02 := BX0.out 2 _ rfl
      have xBX03 := BX0.out 3 _ rfl
      have xBX04 := BX0.out 4 _ rfl
      have xBX05 := BX0.out 5 _ rfl
      have xBX06 := BX0.out 6 _ rfl
      have xBX07 := BX0.out 7 _ rfl
      go_wp2_with fail
      refine (TO0.out _ FB.out).mono ?_
      rintro e w18_ ⟨g18_0, g18_1, rfl, hrow18, hb18⟩
      clear xBX00 xBX01 xBX02 xBX03 xBX04 xBX05 xBX06 xBX07
      have hS := Sm.of_below hb18
      replace BX0 := Lib.hid (BX0.out.sm hS (by omega))
      replace RS0 := Lib.hid (RS0.out.sm hS (by omega))
      replace RS1 := Lib.hid (RS1.out.sm hS (by omega))
      replace CX0 := Lib.hid (CX0.out.sm hS (by omega))
      replace RM0 := Lib.hid (RM0.out.sm hS (by omega))
      replace RM1 := Lib.hid (RM1.out.sm hS (by omega))
      replace FB := Lib.hid (below_step FB.out FN hb18)
      have hzw18_ := hb18.size
      replace FN := Nat.le_trans FN hzw18_
      clear hS hb18
      have V0 := Lib.hid hrow18
      clear hrow18
      go_wp2_with fail
      refine (IM.out _ _ _ V0.out.sl).mono ?_
      rintro e w19_ ⟨s19_0, d19_0, s19_1, d19_1, rfl, hso19, hsq19, hb19⟩
      have hS := Sm.of_below hb19
      replace BX0 := Lib.hid (BX0.out.sm hS (by omega))
      replace RS0 := Lib.hid (RS0.out.sm hS (by omega))
      replace RS1 := Lib.hid (RS1.out.sm hS (by omega))
      replace CX0 := Lib.hid (CX0.out.sm hS (by omega))
      replace RM0 := Lib.hid (RM0.out.sm hS (by omega))
      replace RM1 := Lib.hid (RM1.out.sm hS (by omega))
      replace V0 := Lib.hid (V0.out.sm hS (by omega))
      replace FB := Lib.hid (below_step FB.out FN hb19)
      have hzw19_ := hb19.size
      replace FN := Nat.le_trans FN hzw19_
      clear hS hb19
      have RH0 := Lib.hid hso19.within
      clear hso19
      have RH1 := Lib.hid hsq19.within
      clear hsq19
      clear V0
      go_wp2_with fail
      refine (EQ0.out _ _ _ _ _ RH0.out.sl RS0.out.sl).mono ?_
      rintro e w20_ ⟨rfl, hb20⟩
      have hS := Sm.of_below hb20
      replace BX0 := Lib.hid (BX0.out.sm hS (by omega))
      replace RS0 := Lib.hid (RS0.out.sm hS (by omega))
      replace RS1 := Lib.hid (RS1.out.sm hS (by omega))
      replace CX0 := Lib.hid (CX0.out.sm hS (by omega))
      replace RM0 := Lib.hid (RM0.out.sm hS (by omega))
      replace RM1 := Lib.hid (RM1.out.sm hS (by omega))
      replace RH0 := Lib.hid (RH0.out.sm hS (by omega))
      replace RH1 := Lib.hid (RH1.out.sm hS (by omega))
      replace FB := Lib.hid (below_step FB.out FN hb20)
      have hzw20_ := hb20.size
      replace FN := Nat.le_trans FN hzw20_
      clear hS hb20
      go_wp2_with fail
      refine (EQ1.out _ _ _ _ _ RH1.out.sl RS1.out.sl).mono ?_
      rintro e w21_ ⟨rfl, hb21⟩
      have hS := Sm.of_below hb21
      replace BX0 := Lib.hid (BX0.out.sm hS (by omega))
      replace RS0 := Lib.hid (RS0.out.sm hS (by omega))
      replace RS1 := Lib.hid (RS1.out.sm hS (by omega))
      replace CX0 := Lib.hid (CX0.out.sm hS (by omega))
      replace RM0 := Lib.hid (RM0.out.sm hS (by omega))
      replace RM1 := Lib.hid (RM1.out.sm hS (by omega))
      replace RH0 := Lib.hid (RH0.out.sm hS (by omega))
      replace RH1 := Lib.hid (RH1.out.sm hS (by omega))
      replace FB := Lib.hid (below_step FB.out FN hb21)
      have hzw21_ := hb21.size
      replace FN := Nat.le_trans FN hzw21_
      clear hS hb21
      go_wp2_with fail
      refine (HD0.out _ _ _ RM0.out.sl).mono ?_
      rintro e w22_ ⟨rfl, hb22⟩
      have hS := Sm.of_below hb22
      replace BX0 := Lib.hid (BX0.out.sm hS (by omega))
      replace RS0 := Lib.hid (RS0.out.sm hS (by omega))
      replace RS1 := Lib.hid (RS1.out.sm hS (by omega))
      replace CX0 := Lib.hid (CX0.out.sm hS (by omega))
      replace RM0 := Lib.hid (RM0.out.sm hS (by omega))
      replace RM1 := Lib.hid (RM1.out.sm hS (by omega))
      replace RH0 := Lib.hid (RH0.out.sm hS (by omega))
      replace RH1 := Lib.hid (RH1.out.sm hS (by omega))
      replace FB := Lib.hid (below_step FB.out FN hb22)
      have hzw22_ := hb22.size
      replace FN := Nat.le_trans FN hzw22_
      clear hS hb22
      go_wp2_with fail
      refine (HD1.out _ _ _ RM1.out.sl).mono ?_
      rintro e w23_ ⟨rfl, hb23⟩
      have hS := Sm.of_below hb23
      replace BX0 := Lib.hid (BX0.out.sm hS (by omega))
      replace RS0 := Lib.hid (RS0.out.sm hS (by omega))
      replace RS1 := Lib.hid (RS1.out.sm hS (by omega))
      replace CX0 := Lib.hid (CX0.out.sm hS (by omega))
      replace RM0 := Lib.hid (RM0.out.sm hS (by omega))
      replace RM1 := Lib.hid (RM1.out.sm hS (by omega))
      replace RH0 := Lib.hid (RH0.out.sm hS (by omega))
      replace RH1 := Lib.hid (RH1.out.sm hS (by omega))
      replace FB := Lib.hid (below_step FB.out FN hb23)
      have hzw23_ := hb23.size
      replace FN := Nat.le_trans FN hzw23_
      clear hS hb23
      go_wp2
      go_ret
      exact ⟨rfl, FB.out⟩
end Go.Proofs.Ytjnabncfkogigaa.fnExactAllBlocks
