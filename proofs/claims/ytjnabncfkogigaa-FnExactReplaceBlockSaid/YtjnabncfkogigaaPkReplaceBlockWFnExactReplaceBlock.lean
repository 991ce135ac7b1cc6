/- FnExactReplaceBlock: the law's walk. -/
import Derived.Test.YtjnabncfkogigaaPkReplaceBlockB
import Derived.Test.YtjnabncfkogigaaPkReplaceBlockRpIm
import Derived.Test.YtjnabncfkogigaaPkReplaceBlockRpSp
import Derived.Test.YtjnabncfkogigaaPkReplaceBlockC
import Derived.Test.YtjnabncfkogigaaPkReplaceBlockMarkNestDevice
namespace Go.Proofs.Ytjnabncfkogigaa.fnExactReplaceBlock
open Go.RowKit
set_option linter.unusedVariables false
set_option maxRecDepth 20000 in
set_option maxHeartbeats 8000000 in
theorem walk (x0 : DeviceV) (s0_0 s0_1 : Option Addr) (cap0_0 cap0_1 : Nat) (a1 : Int) (w : World) (w0 : ArgDevice w s0_0 s0_1 x0) (w1 : (Lit.int .i64 a1).wf = true) :
    Calls Try.prog 9 #[.agg #[.int .i64 x0.f0.f0, .int .i64 x0.f0.f1, .int .i64 x0.f0.f2, .int .i64 x0.f0.f3, .slice s0_0 x0.f0.f4.length cap0_0, .int .i64 x0.f1, .int .i64 x0.f2, .slice s0_1 x0.f3.length cap0_1], .int .i64 a1] w fun e w' => e = .returned (.bool true) ∧ Below w.heap.size w w' := by
  obtain ⟨hm0, hsl0, v0⟩ := w0
  by_cases hk0 : wtDevice x0 ≤ 1048576
  case neg =>
    have SN0 := Lib.hid (fun w' (hb : Below w.heap.size w w') => (szDevice_any x0 s0_0 s0_1 cap0_0 cap0_1 1048576 w' (by omega) hm0 v0 (hsl0.below hb (Nat.le_refl _))).mono (fun e w'' ⟨he, hw⟩ => (show e = Ending.returned (.int .i64 (-1)) ∧ Below w'.heap.size w' w'' from ⟨by rw [he]; unfold szV; rw [if_neg hk0], hw⟩)))
    clear hsl0
    go_enter Try.func9, Try.ntmps9
    have FB := Lib.hid (show Below w.heap.size w w from Below.refl _ _)
    have FN : w.heap.size ≤ w.heap.size := Nat.le_refl _
    have hS := Sm.alloc w (.cells #[.int .i64 x0.f0.f0, .int .i64 x0.f0.f1, .int .i64 x0.f0.f2, .int .i64 x0.f0.f3, .slice s0_0 x0.f0.f4.length cap0_0, .int .i64 x0.f1, .int .i64 x0.f2, .slice s0_1 x0.f3.length cap0_1] 27)
    have BX0 := Lib.hid (BoxAt.new w #[.int .i64 x0.f0.f0, .int .i64 x0.f0.f1, .int .i64 x0.f0.f2, .int .i64 x0.f0.f3, .slice s0_0 x0.f0.f4.length cap0_0, .int .i64 x0.f1, .int .i64 x0.f2, .slice s0_1 x0.f3.length cap0_1] 27 w.heap.size rfl)
    replace FB := Lib.hid (below_new FB.out FN (.cells #[.int .i64 x0.f0.f0, .int .i64 x0.f0.f1, .int .i64 x0.f0.f2, .int .i64 x0.f0.f3, .slice s0_0 x0.f0.f4.length cap0_0, .int .i64 x0.f1, .int .i64 x0.f2, .slice s0_1 x0.f3.length cap0_1] 27))
    have hq1 : (w.alloc (.cells #[.int .i64 x0.f0.f0, .int .i64 x0.f0.f1, .int .i64 x0.f0.f2, .int .i64 x0.f0.f3, .slice s0_0 x0.f0.f4.length cap0_0, .int .i64 x0.f1, .int .i64 x0.f2, .slice s0_1 x0.f3.length cap0_1] 27)).heap.size = w.heap.size + 1 := by simp
    replace FN : w.heap.size ≤ (w.alloc (.cells #[.int .i64 x0.f0.f0, .int .i64 x0.f0.f1, .int .i64 x0.f0.f2, .int .i64 x0.f0.f3, .slice s0_0 x0.f0.f4.length cap0_0, .int .i64 x0.f1, .int .i64 x0.f2, .slice s0_1 x0.f3.length cap0_1] 27)).heap.size := by omega
    clear hS
    have xBX00 := BX0.out 0 _ rfl
    have xBX01 := BX0.out 1 _ rfl
    have xBX02 := BX0.out 2 _ rfl
    have xBX03 := BX0.out 3 _ rfl
    have xBX04 := BX0.out 4 _ rfl
    have xBX05 := BX0.out 5 _ rfl
    have xBX06 := BX0.out 6 _ rfl
    have xBX07 := BX0.out 7 _ rfl
    go_wp2_with fail
    refine (SN0.out _ FB.out).mono ?_
    rintro e w2_ ⟨rfl, hb2⟩
    clear xBX00 xBX01 xBX02 xBX03 xBX04 xBX05 xBX06 xBX07
    have hS := Sm.of_below hb2
    replace BX0 := Lib.hid (BX0.out.sm hS (by omega))
    replace FB := Lib.hid (below_step FB.out FN hb2)
    have hzw2_ := hb2.size
    replace FN := Nat.le_trans FN hzw2_
    clear hS hb2
    go_wp2
    go_ret
    exact ⟨rfl, FB.out⟩
  case pos =>
    have sz0 := fun w' (hb : Below w.heap.size w w') => (szDevice_any x0 s0_0 s0_1 cap0_0 cap0_1 1048576 w' (by omega) hm0 v0 (hsl0.below hb (Nat.le_refl _))).mono (fun e w'' ⟨he, hw⟩ => (show e = Ending.returned (.int .i64 ((1048576 - wtDevice x0 : Nat) : Int)) ∧ Below w'.heap.size w' w'' from ⟨by rw [he]; unfold szV; rw [if_pos hk0], hw⟩))
    obtain ⟨lf0, hlf0⟩ : ∃ m, 1048576 - wtDevice x0 = m := ⟨_, rfl⟩
    rw [hlf0] at sz0
    have hlfb0 : ¬ ((lf0 : Int) < 0) := by omega
    have hlfc0 : lf0 ≤ 1048576 := by omega
    have SZ0 := Lib.hid sz0; clear sz0
    have hn0 : LenDevice 1048576 x0 := wtDevice_len (by omega)
    have hv0 : StrDevice 1048576 x0 := wtDevice_str (by omega)
    have TO0 := Lib.hid (fun w' (hb : Below w.heap.size w w') => toDevice_any x0 s0_0 s0_1 cap0_0 cap0_1 w' hn0 (hsl0.below hb (Nat.le_refl _)))
    have EX0 := Lib.hid (fun y0 y1 d0 d1 z0 z1 e0 e1 w' (h1 : SlDevice w' y0 y1 x0) (h2 : SlDevice w' z0 z1 x0) => eqDevice_any true x0 y0 y1 d0 d1 x0 z0 z1 e0 e1 w' (by simp) (wtDevice_len (by omega)) (wtDevice_len (by omega)) h1 h2)
    have hsp := fun g0_0 g0_1 w' (h0 : SlDevice w' (some ⟨g0_0, 0, none⟩) (some ⟨g0_1, 0, none⟩) x0) => specReplaceBlock_any x0 (some ⟨g0_0, 0, none⟩) (some ⟨g0_1, 0, none⟩) (x0.f0.f4.length) (x0.f3.length) a1 hn0 hv0 w' h0
    have him := fun g0_0 g0_1 w' (h0 : SlDevice w' (some ⟨g0_0, 0, none⟩) (some ⟨g0_1, 0, none⟩) x0) => replaceBlock_any x0 (some ⟨g0_0, 0, none⟩) (some ⟨g0_1, 0, none⟩) (x0.f0.f4.length) (x0.f3.length) a1 hn0 hv0 w' h0
    have hR := rpV_len x0 a1 hn0
    generalize rpV x0 a1 = rr at hsp him hR
    have heq := fun x0 x1 d0 d1 y0 y1 e0 e1 w' (h1 : SlDevice w' x0 x1 rr) (h2 : SlDevice w' y0 y1 rr) => eqDevice_any true rr x0 x1 d0 d1 rr y0 y1 e0 e1 w' (by simp) (hR.mono (by omega)) (hR.mono (by omega)) h1 h2
    have hmk := fun x0 x1 d0 d1 B C w' hC h => markDevice_sm rr x0 x1 d0 d1 1 B C w' hR (by omega) (by omega) hC h
    have hhd := fun x0 x1 d0 d1 w' (h : SlDevice w' x0 x1 (mkNDevice rr 1)) => heldDevice_any rr x0 x1 d0 d1 1 w' hR (by omega) (by omega) h
    unfold MarkedNDevice at hmk
    have hk1 : 1 + cntDevice rr ≤ 134217728 := by have := cntDevice_le hR; omega
    obtain ⟨kr, hkr⟩ : ∃ m, 1 + cntDevice rr = m := ⟨_, rfl⟩
    rw [hkr] at hmk hhd hk1
    have hkk : ((kr : Int) != (kr : Int)) = false := by simp
    have hkr0 : ¬ ((kr : Int) < 0) := by omega
    have hmx0 := fun g0 g1 B C w' hC h => markDevice_sm x0 (some ⟨g0, 0, none⟩) (some ⟨g1, 0, none⟩) (x0.f0.f4.length) (x0.f3.length) 1 B C w' hn0 (by omega) (by omega) hC h
    unfold MarkedNDevice at hmx0
    have hxb0 : 1 + cntDevice x0 ≤ 16777216 := by have := cntDevice_le hn0; omega
    have hxp0 : 0 < 1 + cntDevice x0 := by omega
    obtain ⟨kx0, hkx0⟩ : ∃ m, 1 + cntDevice x0 = m := ⟨_, rfl⟩
    rw [hkx0] at hmx0 hxb0 hxp0
    have hkxz0 : ¬ ((kx0 : Int) < 0) := by omega
    have MX0 := Lib.hid hmx0; clear hmx0
    have EQ := Lib.hid heq; have MK := Lib.hid hmk; have HD := Lib.hid hhd; clear heq hmk hhd
    generalize rpC x0 a1 = r1 at hsp him
    have hvq1 : (r1 != r1) = false := by simp
    have SP := Lib.hid hsp; have IM := Lib.hid him; clear hsp him hsl0
    go_enter Try.func9, Try.ntmps9
    have FB := Lib.hid (show Below w.heap.size w w from Below.refl _ _)
    have FN : w.heap.size ≤ w.heap.size := Nat.le_refl _
    have hS := Sm.alloc w (.cells #[.int .i64 x0.f0.f0, .int .i64 x0.f0.f1, .int .i64 x0.f0.f2, .int .i64 x0.f0.f3, .slice s0_0 x0.f0.f4.length cap0_0, .int .i64 x0.f1, .int .i64 x0.f2, .slice s0_1 x0.f3.length cap0_1] 27)
    have BX0 := Lib.hid (BoxAt.new w #[.int .i64 x0.f0.f0, .int .i64 x0.f0.f1, .int .i64 x0.f0.f2, .int .i64 x0.f0.f3, .slice s0_0 x0.f0.f4.length cap0_0, .int .i64 x0.f1, .int .i64 x0.f2, .slice s0_1 x0.f3.length cap0_1] 27 w.heap.size rfl)
    replace FB := Lib.hid (below_new FB.out FN (.cells #[.int .i64 x0.f0.f0, .int .i64 x0.f0.f1, .int .i64 x0.f0.f2, .int .i64 x0.f0.f3, .slice s0_0 x0.f0.f4.length cap0_0, .int .i64 x0.f1, .int .i64 x0.f2, .slice s0_1 x0.f3.length cap0_1] 27))
    have hq1 : (w.alloc (.cells #[.int .i64 x0.f0.f0, .int .i64 x0.f0.f1, .int .i64 x0.f0.f2, .int .i64 x0.f0.f3, .slice s0_0 x0.f0.f4.length cap0_0, .int .i64 x0.f1, .int .i64 x0.f2, .slice s0_1 x0.f3.length cap0_1] 27)).heap.size = w.heap.size + 1 := by simp
    replace FN : w.heap.size ≤ (w.alloc (.cells #[.int .i64 x0.f0.f0, .int .i64 x0.f0.f1, .int .i64 x0.f0.f2, .int .i64 x0.f0.f3, .slice s0_0 x0.f0.f4.length cap0_0, .int .i64 x0.f1, .int .i64 x0.f2, .slice s0_1 x0.f3.length cap0_1] 27)).heap.size := by omega
    clear hS
    have xBX00 := BX0.out 0 _ rfl
    have xBX01 := BX0.out 1 _ rfl
    have xBX02 := BX0.out 2 _ rfl
    have xBX03 := BX0.out 3 _ rfl
    have xBX04 := BX0.out 4 _ rfl
    have xBX05 := BX0.out 5 _ rfl
    have xBX06 := BX0.out 6 _ rfl
    have xBX07 := BX0.out 7 _ rfl
    go_wp2_with fail
    refine (SZ0.out _ FB.out).mono ?_
    rintro e w2_ ⟨rfl, hb2⟩
    clear xBX00 xBX01 xBX02 xBX03 xBX04 xBX05 xBX06 xBX07
    have hS := Sm.of_below hb2
    replace BX0 := Lib.hid (BX0.out.sm hS (by omega))
    replace FB := Lib.hid (below_step FB.out FN hb2)
    have hzw2_ := hb2.size
    replace FN := Nat.le_trans FN hzw2_
    clear hS hb2
    have xBX00 := BX0.out 0 _ rfl
    have xBX01 := BX0.out 1 _ rfl
    have xBX02 := BX0.out 2 _ rfl
    have xBX03 := BX0.out 3 _ rfl
    have xBX04 := BX0.out 4 _ rfl
    have xBX05 := BX0.out 5 _ rfl
    have xBX06 := BX0.out 6 _ rfl
    have xBX07 := BX0.out 7 _ rfl
    go_wp2_with fail
    refine (TO0.out _ FB.out).mono ?_
    rintro e w3_ ⟨g3_0, g3_1, rfl, hrow3, hb3⟩
    clear xBX00 xBX01 xBX02 xBX03 xBX04 xBX05 xBX06 xBX07
    have hS := Sm.of_below hb3
    replace BX0 := Lib.hid (BX0.out.sm hS (by omega))
    replace FB := Lib.hid (below_step FB.out FN hb3)
    have hzw3_ := hb3.size
    replace FN := Nat.le_trans FN hzw3_
    clear hS hb3
    have R0 := Lib.hid hrow3
    clear hrow3
    go_wp2_with fail
    refine (SP.out _ _ _ R0.out.sl).mono ?_
    rintro e w4_ ⟨s4_0, s4_1, d4_0, d4_1, rfl, hso4, hb4⟩
    have hS := Sm.of_below hb4
    replace BX0 := Lib.hid (BX0.out.sm hS (by omega))
    replace R0 := Lib.hid (R0.out.sm hS (by omega))
    replace FB := Lib.hid (below_step FB.out FN hb4)
    have hzw4_ := hb4.size
    replace FN := Nat.le_trans FN hzw4_
    clear hS hb4
    have RS := Lib.hid hso4.within
    clear hso4
    have hS := Sm.alloc w4_ (.cells #[.int .i64 rr.f0.f0, .int .i64 rr.f0.f1, .int .i64 rr.f0.f2, .int .i64 rr.f0.f3, .slice s4_0 rr.f0.f4.length d4_0, .int .i64 rr.f1, .int .i64 rr.f2, .slice s4_1 rr.f3.length d4_1] 34)
    replace BX0 := Lib.hid (BX0.out.sm hS (by omega))
    replace R0 := Lib.hid (R0.out.sm hS (by omega))
    replace RS := Lib.hid (RS.out.sm hS (by omega))
    have CS := Lib.hid (BoxAt.new w4_ #[.int .i64 rr.f0.f0, .int .i64 rr.f0.f1, .int .i64 rr.f0.f2, .int .i64 rr.f0.f3, .slice s4_0 rr.f0.f4.length d4_0, .int .i64 rr.f1, .int .i64 rr.f2, .slice s4_1 rr.f3.length d4_1] 34 w4_.heap.size rfl)
    replace FB := Lib.hid (below_new FB.out FN (.cells #[.int .i64 rr.f0.f0, .int .i64 rr.f0.f1, .int .i64 rr.f0.f2, .int .i64 rr.f0.f3, .slice s4_0 rr.f0.f4.length d4_0, .int .i64 rr.f1, .int .i64 rr.f2, .slice s4_1 rr.f3.length d4_1] 34))
    have hq5 : (w4_.alloc (.cells #[.int .i64 rr.f0.f0, .int .i64 rr.f0.f1, .int .i64 rr.f0.f2, .int .i64 rr.f0.f3, .slice s4_0 rr.f0.f4.length d4_0, .int .i64 rr.f1, .int .i64 rr.f2, .slice s4_1 rr.f3.length d4_1] 34)).heap.size = w4_.heap.size + 1 := by simp
    replace FN : w.heap.size ≤ (w4_.alloc (.cells #[.int .i64 rr.f0.f0, .int .i64 rr.f0.f1, .int .i64 rr.f0.f2, .int .i64 rr.f0.f3, .slice s4_0 rr.f0.f4.length d4_0, .int .i64 rr.f1, .int .i64 rr.f2, .slice s4_1 rr.f3.length d4_1] 34)).heap.size := by omega
    clear hS
    clear R0
    have xBX00 := BX0.out 0 _ rfl
    have xBX01 := BX0.out 1 _ rfl
    have xBX02 := BX0.out 2 _ rfl
    have xBX03 := BX0.out 3 _ rfl
    have xBX04 := BX0.out 4 _ rfl
    have xBX05 := BX0.out 5 _ rfl
    have xBX06 := BX0.out 6 _ rfl
    have xBX07 := BX0.out 7 _ rfl
    go_wp2_with fail
    refine (TO0.out _ FB.out).mono ?_
    rintro e w6_ ⟨g6_0, g6_1, rfl, hrow6, hb6⟩
    clear xBX00 xBX01 xBX02 xBX03 xBX04 xBX05 xBX06 xBX07
    have hS := Sm.of_below hb6
    replace BX0 := Lib.hid (BX0.out.sm hS (by omega))
    replace RS := Lib.hid (RS.out.sm hS (by omega))
    replace CS := Lib.hid (CS.out.sm hS (by omega))
    replace FB := Lib.hid (below_step FB.out FN hb6)
    have hzw6_ := hb6.size
    replace FN := Nat.le_trans FN hzw6_
    clear hS hb6
    have X0 := Lib.hid hrow6
    clear hrow6
    have hS := Sm.alloc w6_ (.cells #[.int .i64 x0.f0.f0, .int .i64 x0.f0.f1, .int .i64 x0.f0.f2, .int .i64 x0.f0.f3, .slice (some ⟨g6_0, 0, none⟩) x0.f0.f4.length x0.f0.f4.length, .int .i64 x0.f1, .int .i64 x0.f2, .slice (some ⟨g6_1, 0, none⟩) x0.f3.length x0.f3.length] 34)
    replace BX0 := Lib.hid (BX0.out.sm hS (by omega))
    replace RS := Lib.hid (RS.out.sm hS (by omega))
    replace CS := Lib.hid (CS.out.sm hS (by omega))
    replace X0 := Lib.hid (X0.out.sm hS (by omega))
    have CX0 := Lib.hid (BoxAt.new w6_ #[.int .i64 x0.f0.f0, .int .i64 x0.f0.f1, .int .i64 x0.f0.f2, .int .i64 x0.f0.f3, .slice (some ⟨g6_0, 0, none⟩) x0.f0.f4.length x0.f0.f4.length, .int .i64 x0.f1, .int .i64 x0.f2, .slice (some ⟨g6_1, 0, none⟩) x0.f3.length x0.f3.length] 34 w6_.heap.size rfl)
    replace FB := Lib.hid (below_new FB.out FN (.cells #[.int .i64 x0.f0.f0, .int .i64 x0.f0.f1, .int .i64 x0.f0.f2, .int .i64 x0.f0.f3, .slice (some ⟨g6_0, 0, none⟩) x0.f0.f4.length x0.f0.f4.length, .int .i64 x0.f1, .int .i64 x0.f2, .slice (some ⟨g6_1, 0, none⟩) x0.f3.length x0.f3.length] 34))
    have hq7 : (w6_.alloc (.cells #[.int .i64 x0.f0.f0, .int .i64 x0.f0.f1, .int .i64 x0.f0.f2, .int .i64 x0.f0.f3, .slice (some ⟨g6_0, 0, none⟩) x0.f0.f4.length x0.f0.f4.length, .int .i64 x0.f1, .int .i64 x0.f2, .slice (some ⟨g6_1, 0, none⟩) x0.f3.length x0.f3.length] 34)).heap.size = w6_.heap.size + 1 := by simp
    replace FN : w.heap.size ≤ (w6_.alloc (.cells #[.int .i64 x0.f0.f0, .int .i64 x0.f0.f1, .int .i64 x0.f0.f2, .int .i64 x0.f0.f3, .slice (some ⟨g6_0, 0, none⟩) x0.f0.f4.length x0.f0.f4.length, .int .i64 x0.f1, .int .i64 x0.f2, .slice (some ⟨g6_1, 0, none⟩) x0.f3.length x0.f3.length] 34)).heap.size := by omega
    clear hS
    have xCX00 := CX0.out 0 _ rfl
    have xCX01 := CX0.out 1 _ rfl
    have xCX02 := CX0.out 2 _ rfl
    have xCX03 := CX0.out 3 _ rfl
    have xCX04 := CX0.out 4 _ rfl
    have xCX05 := CX0.out 5 _ rfl
    have xCX06 := CX0.out 6 _ rfl
    have xCX07 := CX0.out 7 _ rfl
    go_wp2_with fail
    refine (IM.out _ _ _ X0.out.sl).mono ?_
    rintro e w8_ ⟨s8_0, s8_1, d8_0, d8_1, rfl, hso8, hb8⟩
    clear xCX00 xCX01 xCX02 xCX03 xCX04 xCX05 xCX06 xCX07
    have hS := Sm.of_below hb8
    replace BX0 := Lib.hid (BX0.out.sm hS (by omega))
    replace RS := Lib.hid (RS.out.sm hS (by omega))
    replace CS := Lib.hid (CS.out.sm hS (by omega))
    replace X0 := Lib.hid (X0.out.sm hS (by omega))
    replace CX0 := Lib.hid (CX0.out.sm hS (by omega))
    replace FB := Lib.hid (below_step FB.out FN hb8)
    have hzw8_ := hb8.size
    replace FN := Nat.le_trans FN hzw8_
    clear hS hb8
    have RG := Lib.hid hso8.within
    clear hso8
    have hS := Sm.alloc w8_ (.cells #[.int .i64 rr.f0.f0, .int .i64 rr.f0.f1, .int .i64 rr.f0.f2, .int .i64 rr.f0.f3, .slice s8_0 rr.f0.f4.length d8_0, .int .i64 rr.f1, .int .i64 rr.f2, .slice s8_1 rr.f3.length d8_1] 34)
    replace BX0 := Lib.hid (BX0.out.sm hS (by omega))
    replace RS := Lib.hid (RS.out.sm hS (by omega))
    replace CS := Lib.hid (CS.out.sm hS (by omega))
    replace X0 := Lib.hid (X0.out.sm hS (by omega))
    replace CX0 := Lib.hid (CX0.out.sm hS (by omega))
    replace RG := Lib.hid (RG.out.sm hS (by omega))
    have CG := Lib.hid (BoxAt.new w8_ #[.int .i64 rr.f0.f0, .int .i64 rr.f0.f1, .int .i64 rr.f0.f2, .int .i64 rr.f0.f3, .slice s8_0 rr.f0.f4.length d8_0, .int .i64 rr.f1, .int .i64 rr.f2, .slice s8_1 rr.f3.length d8_1] 34 w8_.heap.size rfl)
    replace FB := Lib.hid (below_new FB.out FN (.cells #[.int .i64 rr.f0.f0, .int .i64 rr.f0.f1, .int .i64 rr.f0.f2, .int .i64 rr.f0.f3, .slice s8_0 rr.f0.f4.length d8_0, .int .i64 rr.f1, .int .i64 rr.f2, .slice s8_1 rr.f3.length d8_1] 34))
    have hq9 : (w8_.alloc (.cells #[.int .i64 rr.f0.f0, .int .i64 rr.f0.f1, .int .i64 rr.f0.f2, .int .i64 rr.f0.f3, .slice s8_0 rr.f0.f4.length d8_0, .int .i64 rr.f1, .int .i64 rr.f2, .slice s8_1 rr.f3.length d8_1] 34)).heap.size = w8_.heap.size + 1 := by simp
    replace FN : w.heap.size ≤ (w8_.alloc (.cells #[.int .i64 rr.f0.f0, .int .i64 rr.f0.f1, .int .i64 rr.f0.f2, .int .i64 rr.f0.f3, .slice s8_0 rr.f0.f4.length d8_0, .int .i64 rr.f1, .int .i64 rr.f2, .slice s8_1 rr.f3.length d8_1] 34)).heap.size := by omega
    clear hS
    have xCG0 := CG.out 0 _ rfl
    have xCG1 := CG.out 1 _ rfl
    have xCG2 := CG.out 2 _ rfl
    have xCG3 := CG.out 3 _ rfl
    have xCG4 := CG.out 4 _ rfl
    have xCG5 := CG.out 5 _ rfl
    have xCG6 := CG.out 6 _ rfl
    have xCG7 := CG.out 7 _ rfl
    have xCS0 := CS.out 0 _ rfl
    have xCS1 := CS.out 1 _ rfl
    have xCS2 := CS.out 2 _ rfl
    have xCS3 := CS.out 3 _ rfl
    have xCS4 := CS.out 4 _ rfl
    have xCS5 := CS.out 5 _ rfl
    have xCS6 := CS.out 6 _ rfl
    have xCS7 := CS.out 7 _ rfl
    go_wp2_with fail
    refine (EQ.out _ _ _ _ _ _ _ _ _ RG.out.sl RS.out.sl).mono ?_
    rintro e w10_ ⟨rfl, hb10⟩
    clear xCG0 xCG1 xCG2 xCG3 xCG4 xCG5 xCG6 xCG7
    clear xCS0 xCS1 xCS2 xCS3 xCS4 xCS5 xCS6 xCS7
    have hS := Sm.of_below hb10
    replace BX0 := Lib.hid (BX0.out.sm hS (by omega))
    replace RS := Lib.hid (RS.out.sm hS (by omega))
    replace CS := Lib.hid (CS.out.sm hS (by omega))
    replace X0 := Lib.hid (X0.out.sm hS (by omega))
    replace CX0 := Lib.hid (CX0.out.sm hS (by omega))
    replace RG := Lib.hid (RG.out.sm hS (by omega))
    replace CG := Lib.hid (CG.out.sm hS (by omega))
    replace FB := Lib.hid (below_step FB.out FN hb10)
    have hzw10_ := hb10.size
    replace FN := Nat.le_trans FN hzw10_
    clear hS hb10
    have hlCX0 := CX0.out.lt (by simp)
    have hlBX0 := BX0.out.lt (by simp)
    have xCX00 := CX0.out 0 _ rfl
    have xCX01 := CX0.out 1 _ rfl
    have xCX02 := CX0.out 2 _ rfl
    have xCX03 := CX0.out 3 _ rfl
    have xCX04 := CX0.out 4 _ rfl
    have xCX05 := CX0.out 5 _ rfl
    have xCX06 := CX0.out 6 _ rfl
    have xCX07 := CX0.out 7 _ rfl
    have xBX00 := BX0.out 0 _ rfl
    have xBX01 := BX0.out 1 _ rfl
    have xBX02 := BX0.out 2 _ rfl
    have xBX03 := BX0.out 3 _ rfl
    have xBX04 := BX0.out 4 _ rfl
    have xBX05 := BX0.out 5 _ rfl
    have xBX06 := BX0.out 6 _ rfl
    have xBX07 := BX0.out 7 _ rfl
    have KS := Lib.hid (fun w' (hb : Below w10_.heap.size w10_ w') => (show (w'.cell? ⟨w6_.heap.size, 0, none⟩ = some (.int .i64 x0.f0.f0) ∧ w'.cell? ⟨w6_.heap.size, 1, none⟩ = some (.int .i64 x0.f0.f1) ∧ w'.cell? ⟨w6_.heap.size, 2, none⟩ = some (.int .i64 x0.f0.f2) ∧ w'.cell? ⟨w6_.heap.size, 3, none⟩ = some (.int .i64 x0.f0.f3) ∧ w'.cell? ⟨w6_.heap.size, 4, none⟩ = some (.slice (some ⟨g6_0, 0, none⟩) x0.f0.f4.length x0.f0.f4.length) ∧ w'.cell? ⟨w6_.heap.size, 5, none⟩ = some (.int .i64 x0.f1) ∧ w'.cell? ⟨w6_.heap.size, 6, none⟩ = some (.int .i64 x0.f2) ∧ w'.cell? ⟨w6_.heap.size, 7, none⟩ = some (.slice (some ⟨g6_1, 0, none⟩) x0.f3.length x0.f3.length)) ∧ (w'.cell? ⟨w.heap.size, 0, none⟩ = some (.int .i64 x0.f0.f0) ∧ w'.cell? ⟨w.heap.size, 1, none⟩ = some (.int .i64 x0.f0.f1) ∧ w'.cell? ⟨w.heap.size, 2, none⟩ = some (.int .i64 x0.f0.f2) ∧ w'.cell? ⟨w.heap.size, 3, none⟩ = some (.int .i64 x0.f0.f3) ∧ w'.cell? ⟨w.heap.size, 4, none⟩ = some (.slice s0_0 x0.f0.f4.length cap0_0) ∧ w'.cell? ⟨w.heap.size, 5, none⟩ = some (.int .i64 x0.f1) ∧ w'.cell? ⟨w.heap.size, 6, none⟩ = some (.int .i64 x0.f2) ∧ w'.cell? ⟨w.heap.size, 7, none⟩ = some (.slice s0_1 x0.f3.length cap0_1)) from ⟨⟨(CX0.out.below hb hlCX0) 0 _ rfl, (CX0.out.below hb hlCX0) 1 _ rfl, (CX0.out.below hb hlCX0) 2 _ rfl, (CX0.out.below hb hlCX0) 3 _ rfl, (CX0.out.below hb hlCX0) 4 _ rfl, (CX0.out.below hb hlCX0) 5 _ rfl, (CX0.out.below hb hlCX0) 6 _ rfl, (CX0.out.below hb hlCX0) 7 _ rfl⟩, ⟨(BX0.out.below hb hlBX0) 0 _ rfl, (BX0.out.below hb hlBX0) 1 _ rfl, (BX0.out.below hb hlBX0) 2 _ rfl, (BX0.out.below hb hlBX0) 3 _ rfl, (BX0.out.below hb hlBX0) 4 _ rfl, (BX0.out.below hb hlBX0) 5 _ rfl, (BX0.out.below hb hlBX0) 6 _ rfl, (BX0.out.below hb hlBX0) 7 _ rfl⟩⟩))
    have hks : (w10_.cell? ⟨w6_.heap.size, 0, none⟩ = some (.int .i64 x0.f0.f0) ∧ w10_.cell? ⟨w6_.heap.size, 1, none⟩ = some (.int .i64 x0.f0.f1) ∧ w10_.cell? ⟨w6_.heap.size, 2, none⟩ = some (.int .i64 x0.f0.f2) ∧ w10_.cell? ⟨w6_.heap.size, 3, none⟩ = some (.int .i64 x0.f0.f3) ∧ w10_.cell? ⟨w6_.heap.size, 4, none⟩ = some (.slice (some ⟨g6_0, 0, none⟩) x0.f0.f4.length x0.f0.f4.length) ∧ w10_.cell? ⟨w6_.heap.size, 5, none⟩ = some (.int .i64 x0.f1) ∧ w10_.cell? ⟨w6_.heap.size, 6, none⟩ = some (.int .i64 x0.f2) ∧ w10_.cell? ⟨w6_.heap.size, 7, none⟩ = some (.slice (some ⟨g6_1, 0, none⟩) x0.f3.length x0.f3.length)) ∧ (w10_.cell? ⟨w.heap.size, 0, none⟩ = some (.int .i64 x0.f0.f0) ∧ w10_.cell? ⟨w.heap.size, 1, none⟩ = some (.int .i64 x0.f0.f1) ∧ w10_.cell? ⟨w.heap.size, 2, none⟩ = some (.int .i64 x0.f0.f2) ∧ w10_.cell? ⟨w.heap.size, 3, none⟩ = some (.int .i64 x0.f0.f3) ∧ w10_.cell? ⟨w.heap.size, 4, none⟩ = some (.slice s0_0 x0.f0.f4.length cap0_0) ∧ w10_.cell? ⟨w.heap.size, 5, none⟩ = some (.int .i64 x0.f1) ∧ w10_.cell? ⟨w.heap.size, 6, none⟩ = some (.int .i64 x0.f2) ∧ w10_.cell? ⟨w.heap.size, 7, none⟩ = some (.slice s0_1 x0.f3.length cap0_1)) := KS.out _ (Below.refl _ _)
    have FBX := Lib.hid (fun w' (hb : Below w10_.heap.size w10_ w') => (show Below w.heap.size w w' from FB.out.trans (hb.mono FN)))
    have HC := Lib.hid (show Below w10_.heap.size w10_ w10_.drew from (Below.refl _ _).drew)
    replace RS := Lib.hid RS.out.drew
    replace X0 := Lib.hid X0.out.drew
    replace RG := Lib.hid RG.out.drew
    go_wp2
    go_region_held3 (fun w' => (w'.cell? ⟨w6_.heap.size, 0, none⟩ = some (.int .i64 x0.f0.f0) ∧ w'.cell? ⟨w6_.heap.size, 1, none⟩ = some (.int .i64 x0.f0.f1) ∧ w'.cell? ⟨w6_.heap.size, 2, none⟩ = some (.int .i64 x0.f0.f2) ∧ w'.cell? ⟨w6_.heap.size, 3, none⟩ = some (.int .i64 x0.f0.f3) ∧ w'.cell? ⟨w6_.heap.size, 4, none⟩ = some (.slice (some ⟨g6_0, 0, none⟩) x0.f0.f4.length x0.f0.f4.length) ∧ w'.cell? ⟨w6_.heap.size, 5, none⟩ = some (.int .i64 x0.f1) ∧ w'.cell? ⟨w6_.heap.size, 6, none⟩ = some (.int .i64 x0.f2) ∧ w'.cell? ⟨w6_.heap.size, 7, none⟩ = some (.slice (some ⟨g6_1, 0, none⟩) x0.f3.length x0.f3.length)) ∧ (w'.cell? ⟨w.heap.size, 0, none⟩ = some (.int .i64 x0.f0.f0) ∧ w'.cell? ⟨w.heap.size, 1, none⟩ = some (.int .i64 x0.f0.f1) ∧ w'.cell? ⟨w.heap.size, 2, none⟩ = some (.int .i64 x0.f0.f2) ∧ w'.cell? ⟨w.heap.size, 3, none⟩ = some (.int .i64 x0.f0.f3) ∧ w'.cell? ⟨w.heap.size, 4, none⟩ = some (.slice s0_0 x0.f0.f4.length cap0_0) ∧ w'.cell? ⟨w.heap.size, 5, none⟩ = some (.int .i64 x0.f1) ∧ w'.cell? ⟨w.heap.size, 6, none⟩ = some (.int .i64 x0.f2) ∧ w'.cell? ⟨w.heap.size, 7, none⟩ = some (.slice s0_1 x0.f3.length cap0_1)))
      (first | (with_reducible exact KS.out _ HC.out) | (with_reducible exact KS.out _ (HC.out.alloc HC.out.size _)) | go_keep)
      (first
        | (go_at_call 13; ((with_reducible refine (TO0.out _ (FBX.out _ HC.out)).mono ?_); rintro e wt0 ⟨gt0_0, gt0_1, rfl, hrowt0, hbt0⟩; (try (replace RS := Lib.hid (RS.out.sm (Sm.of_below hbt0) (by omega)))); (try (replace X0 := Lib.hid (X0.out.sm (Sm.of_below hbt0) (by omega)))); (try (replace RG := Lib.hid (RG.out.sm (Sm.of_below hbt0) (by omega)))); (try (replace Y0 := Lib.hid (Y0.out.sm (Sm.of_below hbt0) (by omega)))); replace HC := Lib.hid (HC.out.trans (hbt0.mono HC.out.size)); have Y0 := Lib.hid hrowt0))
        | (go_at_call 15; ((with_reducible refine (EX0.out _ _ _ _ _ _ _ _ _ X0.out.sl Y0.out.sl).mono ?_); rintro e w11_ ⟨rfl, hb11⟩; have hbf11 := HC.out.size; (try (replace RS := Lib.hid (RS.out.sm (Sm.of_below hb11) (by omega)))); (try (replace X0 := Lib.hid (X0.out.sm (Sm.of_below hb11) (by omega)))); (try (replace RG := Lib.hid (RG.out.sm (Sm.of_below hb11) (by omega)))); (try (replace Y0 := Lib.hid (Y0.out.sm (Sm.of_below hb11) (by omega)))); replace HC := Lib.hid (HC.out.trans (hb11.mono HC.out.size)); skip))
        | fail)
    all_goals
      replace CX0 := Lib.hid (CX0.out.below HC.out hlCX0)
      replace BX0 := Lib.hid (BX0.out.below HC.out hlBX0)
      replace CS := Lib.hid (CS.out.sm (Sm.of_below HC.out) (by omega))
      replace CG := Lib.hid (CG.out.sm (Sm.of_below HC.out) (by omega))
      replace FB := Lib.hid (FBX.out _ HC.out)
      have hzz11 := HC.out.size
      replace FN := Nat.le_trans FN hzz11
      clear hks KS HC FBX hlCX0 hlBX0
      clear hbf11
      clear xCX00 xCX01 xCX02 xCX03 xCX04 xCX05 xCX06 xCX07
      clear xBX00 xBX01 xBX02 xBX03 xBX04 xBX05 xBX06 xBX07
      clear hrowt0
      clear hbt0
      clear Y0
      have xCX00 := CX0.out 0 _ rfl
      have xCX01 := CX0.out 1 _ rfl
      have xCX02 := CX0.out 2 _ rfl
      have xCX03 := CX0.out 3 _ rfl
      have xCX04 := CX0.out 4 _ rfl
      have xCX05 := CX0.out 5 _ rfl
      have xCX06 := CX0.out 6 _ rfl
      have xCX07 := CX0.out 7 _ rfl
      go_wp2_with fail
      refine (MX0.out _ _ (w4_.alloc (.cells #[.int .i64 rr.f0.f0, .int .i64 rr.f0.f1, .int .i64 rr.f0.f2, .int .i64 rr.f0.f3, .slice s4_0 rr.f0.f4.length d4_0, .int .i64 rr.f1, .int .i64 rr.f2, .slice s4_1 rr.f3.length d4_1] 34)).heap.size w6_.heap.size _ (by omega) (X0.out.mono (by omega) (by omega))).mono ?_
      rintro e w12_ ⟨rfl, hmr12, hmb12, hms12⟩
      clear xCX00 xCX01 xCX02 xCX03 xCX04 xCX05 xCX06 xCX07
      clear X0
      replace BX0 := Lib.hid (BX0.out.sm hms12 (by omega))
      replace RS := Lib.hid (RS.out.sm hms12 (by omega))
      replace CS := Lib.hid (CS.out.sm hms12 (by omega))
      replace CX0 := Lib.hid (CX0.out.sm hms12 (by omega))
      replace RG := Lib.hid (RG.out.sm hms12 (by omega))
      replace CG := Lib.hid (CG.out.sm hms12 (by omega))
      replace FB := Lib.hid (FB.out.trans (hmb12 _ (by omega) FN))
      have hzm12 := hms12.size
      replace FN := Nat.le_trans FN hzm12
      clear hmb12 hms12 hmr12
      have xCG0 := CG.out 0 _ rfl
      have xCG1 := CG.out 1 _ rfl
      have xCG2 := CG.out 2 _ rfl
      have xCG3 := CG.out 3 _ rfl
      have xCG4 := CG.out 4 _ rfl
      have xCG5 := CG.out 5 _ rfl
      have xCG6 := CG.out 6 _ rfl
      have xCG7 := CG.out 7 _ rfl
      have xCS0 := CS.out 0 _ rfl
      have xCS1 := CS.out 1 _ rfl
      have xCS2 := CS.out 2 _ rfl
      have xCS3 := CS.out 3 _ rfl
      have xCS4 := CS.out 4 _ rfl
      have xCS5 := CS.out 5 _ rfl
      have xCS6 := CS.out 6 _ rfl
      have xCS7 := CS.out 7 _ rfl
      go_wp2_with fail
      refine (EQ.out _ _ _ _ _ _ _ _ _ RG.out.sl RS.out.sl).mono ?_
      rintro e w13_ ⟨rfl, hb13⟩
      clear xCG0 xCG1 xCG2 xCG3 xCG4 xCG5 xCG6 xCG7
      clear xCS0 xCS1 xCS2 xCS3 xCS4 xCS5 xCS6 xCS7
      have hS := Sm.of_below hb13
      replace BX0 := Lib.hid (BX0.out.sm hS (by omega))
      replace RS := Lib.hid (RS.out.sm hS (by omega))
      replace CS := Lib.hid (CS.out.sm hS (by omega))
      replace CX0 := Lib.hid (CX0.out.sm hS (by omega))
      replace RG := Lib.hid (RG.out.sm hS (by omega))
      replace CG := Lib.hid (CG.out.sm hS (by omega))
      replace FB := Lib.hid (below_step FB.out FN hb13)
      have hzw13_ := hb13.size
      replace FN := Nat.le_trans FN hzw13_
      clear hS hb13
      have xCG0 := CG.out 0 _ rfl
      have xCG1 := CG.out 1 _ rfl
      have xCG2 := CG.out 2 _ rfl
      have xCG3 := CG.out 3 _ rfl
      have xCG4 := CG.out 4 _ rfl
      have xCG5 := CG.out 5 _ rfl
      have xCG6 := CG.out 6 _ rfl
      have xCG7 := CG.out 7 _ rfl
      go_wp2_with fail
      refine (MK.out _ _ _ _ (w6_.alloc (.cells #[.int .i64 x0.f0.f0, .int .i64 x0.f0.f1, .int .i64 x0.f0.f2, .int .i64 x0.f0.f3, .slice (some ⟨g6_0, 0, none⟩) x0.f0.f4.length x0.f0.f4.length, .int .i64 x0.f1, .int .i64 x0.f2, .slice (some ⟨g6_1, 0, none⟩) x0.f3.length x0.f3.length] 34)).heap.size w8_.heap.size _ (by omega) (RG.out.mono (by omega) (by omega))).mono ?_
      rintro e w14_ ⟨rfl, hmr14, hmb14, hms14⟩
      clear xCG0 xCG1 xCG2 xCG3 xCG4 xCG5 xCG6 xCG7
      clear RG
      replace BX0 := Lib.hid (BX0.out.sm hms14 (by omega))
      replace RS := Lib.hid (RS.out.sm hms14 (by omega))
      replace CS := Lib.hid (CS.out.sm hms14 (by omega))
      replace CX0 := Lib.hid (CX0.out.sm hms14 (by omega))
      replace CG := Lib.hid (CG.out.sm hms14 (by omega))
      replace FB := Lib.hid (FB.out.trans (hmb14 _ (by omega) FN))
      have hzm14 := hms14.size
      replace FN := Nat.le_trans FN hzm14
      have RM := Lib.hid hmr14
      clear hmb14 hms14 hmr14
      have xCG0 := CG.out 0 _ rfl
      have xCG1 := CG.out 1 _ rfl
      have xCG2 := CG.out 2 _ rfl
      have xCG3 := CG.out 3 _ rfl
      have xCG4 := CG.out 4 _ rfl
      have xCG5 := CG.out 5 _ rfl
      have xCG6 := CG.out 6 _ rfl
      have xCG7 := CG.out 7 _ rfl
      go_wp2_with fail
      refine (HD.out _ _ _ _ _ RM.out.sl).mono ?_
      rintro e w15_ ⟨rfl, hb15⟩
      clear xCG0 xCG1 xCG2 xCG3 xCG4 xCG5 xCG6 xCG7
      have hS := Sm.of_below hb15
      replace BX0 := Lib.hid (BX0.out.sm hS (by omega))
      replace RS := Lib.hid (RS.out.sm hS (by omega))
      replace CS := Lib.hid (CS.out.sm hS (by omega))
      replace CX0 := Lib.hid (CX0.out.sm hS (by omega))
      replace CG := Lib.hid (CG.out.sm hS (by omega))
      replace RM := Lib.hid (RM.out.sm hS (by omega))
      replace FB := Lib.hid (below_step FB.out FN hb15)
      have hzw15_ := hb15.size
      replace FN := Nat.le_trans FN hzw15_
      clear hS hb15
      have xBX00 := BX0.out 0 _ rfl
      have xBX01 := BX0.out 1 _ rfl
      have xBX02 := BX0.out 2 _ rfl
      have xBX03 := BX0.out 3 _ rfl
      have xBX04 := BX0.out 4 _ rfl
      have xBX05 := BX0.out 5 _ rfl
      have xBX06 := BX0.out 6 _ rfl
      have xBX07 := BX0.out 7 _ rfl
      go_wp2_with fail
      refine (TO0.out _ FB.out).mono ?_
      rintro e w16_ ⟨g16_0, g16_1, rfl, hrow16, hb16⟩
      clear xBX00 xBX01 xBX02 xBX03 xBX04 xBX05 xBX06 xBX07
      have hS := Sm.of_below hb16
      replace BX0 := Lib.hid (BX0.out.sm hS (by omega))
      replace RS := Lib.hid (RS.out.sm hS (by omega))
      replace CS := Lib.hid (CS.out.sm hS (by omega))
      replace CX0 := Lib.hid (CX0.out.sm hS (by omega))
      replace CG := Lib.hid (CG.out.sm hS (by omega))
      replace RM := Lib.hid (RM.out.sm hS (by omega))
      replace FB := Lib.hid (below_step FB.out FN hb16)
      have hzw16_ := hb16.size
      replace FN := Nat.le_trans FN hzw16_
      clear hS hb16
      have V0 := Lib.hid hrow16
      clear hrow16
      go_wp2_with fail
      refine (IM.out _ _ _ V0.out.sl).mono ?_
      rintro e w17_ ⟨s17_0, s17_1, d17_0, d17_1, rfl, hso17, hb17⟩
      have hS := Sm.of_below hb17
      replace BX0 := Lib.hid (BX0.out.sm hS (by omega))
      replace RS := Lib.hid (RS.out.sm hS (by omega))
      replace CS := Lib.hid (CS.out.sm hS (by omega))
      replace CX0 := Lib.hid (CX0.out.sm hS (by omega))
      replace CG := Lib.hid (CG.out.sm hS (by omega))
      replace RM := Lib.hid (RM.out.sm hS (by omega))
      replace V0 := Lib.hid (V0.out.sm hS (by omega))
      replace FB := Lib.hid (below_step FB.out FN hb17)
      have hzw17_ := hb17.size
      replace FN := Nat.le_trans FN hzw17_
      clear hS hb17
      have RH := Lib.hid hso17.within
      clear hso17
      clear V0
      have hS := Sm.alloc w17_ (.cells #[.int .i64 rr.f0.f0, .int .i64 rr.f0.f1, .int .i64 rr.f0.f2, .int .i64 rr.f0.f3, .slice s17_0 rr.f0.f4.length d17_0, .int .i64 rr.f1, .int .i64 rr.f2, .slice s17_1 rr.f3.length d17_1] 34)
      replace BX0 := Lib.hid (BX0.out.sm hS (by omega))
      replace RS := Lib.hid (RS.out.sm hS (by omega))
      replace CS := Lib.hid (CS.out.sm hS (by omega))
      replace CX0 := Lib.hid (CX0.out.sm hS (by omega))
      replace CG := Lib.hid (CG.out.sm hS (by omega))
      replace RM := Lib.hid (RM.out.sm hS (by omega))
      replace RH := Lib.hid (RH.out.sm hS (by omega))
      have CH := Lib.hid (BoxAt.new w17_ #[.int .i64 rr.f0.f0, .int .i64 rr.f0.f1, .int .i64 rr.f0.f2, .int .i64 rr.f0.f3, .slice s17_0 rr.f0.f4.length d17_0, .int .i64 rr.f1, .int .i64 rr.f2, .slice s17_1 rr.f3.length d17_1] 34 w17_.heap.size rfl)
      replace FB := Lib.hid (below_new FB.out FN (.cells #[.int .i64 rr.f0.f0, .int .i64 rr.f0.f1, .int .i64 rr.f0.f2, .int .i64 rr.f0.f3, .slice s17_0 rr.f0.f4.length d17_0, .int .i64 rr.f1, .int .i64 rr.f2, .slice s17_1 rr.f3.length d17_1] 34))
      have hq18 : (w17_.alloc (.cells #[.int .i64 rr.f0.f0, .int .i64 rr.f0.f1, .int .i64 rr.f0.f2, .int .i64 rr.f0.f3, .slice s17_0 rr.f0.f4.length d17_0, .int .i64 rr.f1, .int .i64 rr.f2, .slice s17_1 rr.f3.length d17_1] 34)).heap.size = w17_.heap.size + 1 := by simp
      replace FN : w.heap.size ≤ (w17_.alloc (.cells #[.int .i64 rr.f0.f0, .int .i64 rr.f0.f1, .int .i64 rr.f0.f2, .int .i64 rr.f0.f3, .slice s17_0 rr.f0.f4.length d17_0, .int .i64 rr.f1, .int .i64 rr.f2, .slice s17_1 rr.f3.length d17_1] 34)).heap.size := by omega
      clear hS
      have xCH0 := CH.out 0 _ rfl
      have xCH1 := CH.out 1 _ rfl
      have xCH2 := CH.out 2 _ rfl
      have xCH3 := CH.out 3 _ rfl
      have xCH4 := CH.out 4 _ rfl
      have xCH5 := CH.out 5 _ rfl
      have xCH6 := CH.out 6 _ rfl
      have xCH7 := CH.out 7 _ rfl
      have xCS0 := CS.out 0 _ rfl
      have xCS1 := CS.out 1 _ rfl
      have xCS2 := CS.out 2 _ rfl
      have xCS3 := CS.out 3 _ rfl
      have xCS4 := CS.out 4 _ rfl
      have xCS5 := CS.out 5 _ rfl
      have xCS6 := CS.out 6 _ rfl
      have xCS7 := CS.out 7 _ rfl
      go_wp2_with fail
      refine (EQ.out _ _ _ _ _ _ _ _ _ RH.out.sl RS.out.sl).mono ?_
      rintro e w19_ ⟨rfl, hb19⟩
      clear xCH0 xCH1 xCH2 xCH3 xCH4 xCH5 xCH6 xCH7
      clear xCS0 xCS1 xCS2 xCS3 xCS4 xCS5 xCS6 xCS7
      have hS := Sm.of_below hb19
      replace BX0 := Lib.hid (BX0.out.sm hS (by omega))
      replace RS := Lib.hid (RS.out.sm hS (by omega))
      replace CS := Lib.hid (CS.out.sm hS (by omega))
      replace CX0 := Lib.hid (CX0.out.sm hS (by omega))
      replace CG := Lib.hid (CG.out.sm hS (by omega))
      replace RM := Lib.hid (RM.out.sm hS (by omega))
      replace RH := Lib.hid (RH.out.sm hS (by omega))
      replace CH := Lib.hid (CH.out.sm hS (by omega))
      replace FB := Lib.hid (below_step FB.out FN hb19)
      have hzw19_ := hb19.size
      replace FN := Nat.le_trans FN hzw19_
      clear hS hb19
      have xCG0 := CG.out 0 _ rfl
      have xCG1 := CG.out 1 _ rfl
      have xCG2 := CG.out 2 _ rfl
      have xCG3 := CG.out 3 _ rfl
      have xCG4 := CG.out 4 _ rfl
      have xCG5 := CG.out 5 _ rfl
      have xCG6 := CG.out 6 _ rfl
      have xCG7 := CG.out 7 _ rfl
      go_wp2_with fail
      refine (HD.out _ _ _ _ _ RM.out.sl).mono ?_
      rintro e w20_ ⟨rfl, hb20⟩
      clear xCG0 xCG1 xCG2 xCG3 xCG4 xCG5 xCG6 xCG7
      have hS := Sm.of_below hb20
      replace BX0 := Lib.hid (BX0.out.sm hS (by omega))
      replace RS := Lib.hid (RS.out.sm hS (by omega))
      replace CS := Lib.hid (CS.out.sm hS (by omega))
      replace CX0 := Lib.hid (CX0.out.sm hS (by omega))
      replace CG := Lib.hid (CG.out.sm hS (by omega))
      replace RM := Lib.hid (RM.out.sm hS (by omega))
      replace RH := Lib.hid (RH.out.sm hS (by omega))
      replace CH := Lib.hid (CH.out.sm hS (by omega))
      replace FB := Lib.hid (below_step FB.out FN hb20)
      have hzw20_ := hb20.size
      replace FN := Nat.le_trans FN hzw20_
      clear hS hb20
      go_wp2
      go_ret
      exact ⟨rfl, FB.out⟩
end Go.Proofs.Ytjnabncfkogigaa.fnExactReplaceBlock
