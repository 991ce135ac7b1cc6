/- FnExactStoreBlocks: the law's walk. -/
import Derived.Test.YtjnabncfkogigaaPkStoreBlocksB
import Derived.Test.YtjnabncfkogigaaPkStoreBlocksDevSt
import Derived.Test.YtjnabncfkogigaaPkStoreBlocksNestDevice
import Derived.Test.YtjnabncfkogigaaPkStoreBlocksRecString
import Derived.Test.YtjnabncfkogigaaPkStoreBlocksMarkNestDevice
import Derived.Test.YtjnabncfkogigaaPkStoreBlocksMarkSString
namespace Go.Proofs.Ytjnabncfkogigaa.fnExactStoreBlocks
open Go.RowKit
set_option linter.unusedVariables false
set_option maxRecDepth 20000 in
set_option maxHeartbeats 8000000 in
theorem walk (x0 : DeviceV) (s0_0 s0_1 : Option Addr) (cap0_0 cap0_1 : Nat) (s1 : Option Addr) (xs1 : List StringV) (cap1 : Nat) (w : World) (w0 : ArgDevice w s0_0 s0_1 x0) (w1 : RecArg rowString w s1 xs1) (v1 : ∀ e ∈ xs1, e.f0.size ≤ maxLen) :
    Calls Try.prog 8 #[.agg #[.int .i64 x0.f0.f0, .int .i64 x0.f0.f1, .int .i64 x0.f0.f2, .int .i64 x0.f0.f3, .slice s0_0 x0.f0.f4.length cap0_0, .int .i64 x0.f1, .int .i64 x0.f2, .slice s0_1 x0.f3.length cap0_1], .slice s1 xs1.length cap1] w fun e w' => e = .returned (.bool true) ∧ Below w.heap.size w w' := by
  obtain ⟨hm0, hsl0, v0⟩ := w0
  obtain ⟨hm1, hsl1⟩ := w1
  by_cases hk0 : wtDevice x0 ≤ 1048576
  case neg =>
    have SN0 := Lib.hid (fun w' (hb : Below w.heap.size w w') => (szDevice_any x0 s0_0 s0_1 cap0_0 cap0_1 1048576 w' (by omega) hm0 v0 (hsl0.below hb (Nat.le_refl _))).mono (fun e w'' ⟨he, hw⟩ => (show e = Ending.returned (.int .i64 (-1)) ∧ Below w'.heap.size w' w'' from ⟨by rw [he]; unfold szV; rw [if_neg hk0], hw⟩)))
    clear hsl0 hsl1
    go_enter Try.func8, Try.ntmps8
    have FB := Lib.hid (show Below w.heap.size w w from Below.refl _ _)
    have FN : w.heap.size ≤ w.heap.size := Nat.le_refl _
    have hS := Sm.alloc w (.cells #[.int .i64 x0.f0.f0, .int .i64 x0.f0.f1, .int .i64 x0.f0.f2, .int .i64 x0.f0.f3, .slice s0_0 x0.f0.f4.length cap0_0, .int .i64 x0.f1, .int .i64 x0.f2, .slice s0_1 x0.f3.length cap0_1] 27)
    have BX0 := Lib.hid (BoxAt.new w #[.int .i64 x0.f0.f0, .int .i64 x0.f0.f1, .int .i64 x0.f0.f2, .int .i64 x0.f0.f3, .slice s0_0 x0.f0.f4.length cap0_0, .int .i64 x0.f1, .int .i64 x0.f2, .slice s0_1 x0.f3.length cap0_1] 27 w.heap.size rfl)
    replace FB := Lib.hid (below_new FB.out FN (.cells #[.int .i64 x0.f0.f0, .int .i64 x0.f0.f1, .int .i64 x0.f0.f2, .int .i64 x0.f0.f3, .slice s0_0 x0.f0.f4.length cap0_0, .int .i64 x0.f1, .int .i64 x0.f2, .slice s0_1 x0.f3.length cap0_1] 27))
    have hq1 : (w.alloc (.cells #[.int .i64 x0.f0.f0, .int .i64 x0.f0.f1, .int .i64 x0.f0.f2, .int .i64 x0.f0.f3, .slice s0_0 x0.f0.f4.length cap0_0, .int .i64 x0.f1, .int .i64 x0.f2, .slice s0_1 x0.f3.length cap0_1] 27)).heap.size = w.heap.size + 1 := by simp
    replace FN : w.heap.size ≤ (w.alloc (.cells #[.int .i64 x0.f0.f0, .int .i64 x0.f0.f1, .int .i64 x0.f0.f2, .int .i64 x0.f0.f3, .slice s0_0 x0.f0.f4.length cap0_0, .int .i64 x0.f1, .int .i64 x0.f2, .slice s0_1 x0.f3.length cap0_1] 27)).heap.size := by omega
    clear hS
    have xBX00 := BX0.out 0 _ rfl
    have xBX01 := BX0.out 1 _ rfl
    have xBX02 := BX0.out 2 _ rfl
    have xBX03 := BX0.out 3 _ rfl
    have xBX04 := BX0.out 4 _ rfl
    have xBX05 := BX0.out 5 _ rfl
    have xBX06 := BX0.out 6 _ rfl
    have xBX07 := BX0.out 7 _ rfl
    go_wp2_with fail
    refine (SN0.out _ FB.out).mono ?_
    rintro e w2_ ⟨rfl, hb2⟩
    clear xBX00 xBX01 xBX02 xBX03 xBX04 xBX05 xBX06 xBX07
    have hS := Sm.of_below hb2
    replace BX0 := Lib.hid (BX0.out.sm hS (by omega))
    replace FB := Lib.hid (below_step FB.out FN hb2)
    have hzw2_ := hb2.size
    replace FN := Nat.le_trans FN hzw2_
    clear hS hb2
    go_wp2
    go_ret
    exact ⟨rfl, FB.out⟩
  case pos =>
    have sz0 := fun w' (hb : Below w.heap.size w w') => (szDevice_any x0 s0_0 s0_1 cap0_0 cap0_1 1048576 w' (by omega) hm0 v0 (hsl0.below hb (Nat.le_refl _))).mono (fun e w'' ⟨he, hw⟩ => (show e = Ending.returned (.int .i64 ((1048576 - wtDevice x0 : Nat) : Int)) ∧ Below w'.heap.size w' w'' from ⟨by rw [he]; unfold szV; rw [if_pos hk0], hw⟩))
    obtain ⟨lf0, hlf0⟩ : ∃ m, 1048576 - wtDevice x0 = m := ⟨_, rfl⟩
    rw [hlf0] at sz0
    have hlfb0 : ¬ ((lf0 : Int) < 0) := by omega
    have hlfc0 : lf0 ≤ 1048576 := by omega
    have SZ0 := Lib.hid sz0; clear sz0
    by_cases hk1 : wtString xs1 ≤ lf0
    case neg =>
      have SN1 := Lib.hid (fun w' (hb : Below w.heap.size w w') => (szStringS_any s1 xs1 cap1 lf0 w' (by omega) hm1 v1 (hsl1.below hb (Nat.le_refl _))).mono (fun e w'' ⟨he, hw⟩ => (show e = Ending.returned (.int .i64 (-1)) ∧ Below w'.heap.size w' w'' from ⟨by rw [he]; unfold szV; rw [if_neg hk1], hw⟩)))
      clear hsl0 hsl1
      go_enter Try.func8, Try.ntmps8
      have FB := Lib.hid (show Below w.heap.size w w from Below.refl _ _)
      have FN : w.heap.size ≤ w.heap.size := Nat.le_refl _
      have hS := Sm.alloc w (.cells #[.int .i64 x0.f0.f0, .int .i64 x0.f0.f1, .int .i64 x0.f0.f2, .int .i64 x0.f0.f3, .slice s0_0 x0.f0.f4.length cap0_0, .int .i64 x0.f1, .int .i64 x0.f2, .slice s0_1 x0.f3.length cap0_1] 27)
      have BX0 := Lib.hid (BoxAt.new w #[.int .i64 x0.f0.f0, .int .i64 x0.f0.f1, .int .i64 x0.f0.f2, .int .i64 x0.f0.f3, .slice s0_0 x0.f0.f4.length cap0_0, .int .i64 x0.f1, .int .i64 x0.f2, .slice s0_1 x0.f3.length cap0_1] 27 w.heap.size rfl)
      replace FB := Lib.hid (below_new FB.out FN (.cells #[.int .i64 x0.f0.f0, .int .i64 x0.f0.f1, .int .i64 x0.f0.f2, .int .i64 x0.f0.f3, .slice s0_0 x0.f0.f4.length cap0_0, .int .i64 x0.f1, .int .i64 x0.f2, .slice s0_1 x0.f3.length cap0_1] 27))
      have hq1 : (w.alloc (.cells #[.int .i64 x0.f0.f0, .int .i64 x0.f0.f1, .int .i64 x0.f0.f2, .int .i64 x0.f0.f3, .slice s0_0 x0.f0.f4.length cap0_0, .int .i64 x0.f1, .int .i64 x0.f2, .slice s0_1 x0.f3.length cap0_1] 27)).heap.size = w.heap.size + 1 := by simp
      replace FN : w.heap.size ≤ (w.alloc (.cells #[.int .i64 x0.f0.f0, .int .i64 x0.f0.f1, .int .i64 x0.f0.f2, .int .i64 x0.f0.f3, .slice s0_0 x0.f0.f4.length cap0_0, .int .i64 x0.f1, .int .i64 x0.f2, .slice s0_1 x0.f3.length cap0_1] 27)).heap.size := by omega
      clear hS
      have xBX00 := BX0.out 0 _ rfl
      have xBX01 := BX0.out 1 _ rfl
      have xBX02 := BX0.out 2 _ rfl
      have xBX03 := BX0.out 3 _ rfl
      have xBX04 := BX0.out 4 _ rfl
      have xBX05 := BX0.out 5 _ rfl
      have xBX06 := BX0.out 6 _ rfl
      have xBX07 := BX0.out 7 _ rfl
      go_wp2_with fail
      refine (SZ0.out _ FB.out).mono ?_
      rintro e w2_ ⟨rfl, hb2⟩
      clear xBX00 xBX01 xBX02 xBX03 xBX04 xBX05 xBX06 xBX07
      have hS := Sm.of_below hb2
      replace BX0 := Lib.hid (BX0.out.sm hS (by omega))
      replace FB := Lib.hid (below_step FB.out FN hb2)
      have hzw2_ := hb2.size
      replace FN := Nat.le_trans FN hzw2_
      clear hS hb2
      go_wp2_with fail
      refine (SN1.out _ FB.out).mono ?_
      rintro e w3_ ⟨rfl, hb3⟩
      have hS := Sm.of_below hb3
      replace BX0 := Lib.hid (BX0.out.sm hS (by omega))
      replace FB := Lib.hid (below_step FB.out FN hb3)
      have hzw3_ := hb3.size
      replace FN := Nat.le_trans FN hzw3_
      clear hS hb3
      go_wp2
      go_ret
      exact ⟨rfl, FB.out⟩
    case pos =>
      have sz1 := fun w' (hb : Below w.heap.size w w') => (szStringS_any s1 xs1 cap1 lf0 w' (by omega) hm1 v1 (hsl1.below hb (Nat.le_refl _))).mono (fun e w'' ⟨he, hw⟩ => (show e = Ending.returned (.int .i64 ((lf0 - wtString xs1 : Nat) : Int)) ∧ Below w'.heap.size w' w'' from ⟨by rw [he]; unfold szV; rw [if_pos hk1], hw⟩))
      obtain ⟨lf1, hlf1⟩ : ∃ m, lf0 - wtString xs1 = m := ⟨_, rfl⟩
      rw [hlf1] at sz1
      have hlfb1 : ¬ ((lf1 : Int) < 0) := by omega
      have hlfc1 : lf1 ≤ 1048576 := by omega
      have SZ1 := Lib.hid sz1; clear sz1
      have hn0 : LenDevice 1048576 x0 := wtDevice_len (by omega)
      have hv0 : StrDevice 1048576 x0 := wtDevice_str (by omega)
      have hn1 : xs1.length ≤ 1048576 := by have := wtString_len xs1; omega
      have hv1 : ∀ e ∈ xs1, e.f0.size ≤ 1048576 := fun e he => by have := wtString_at (Nat.le_refl _) e he; omega
      have TO0 := Lib.hid (fun w' (hb : Below w.heap.size w w') => toDevice_any x0 s0_0 s0_1 cap0_0 cap0_1 w' hn0 (hsl0.below hb (Nat.le_refl _)))
      have EX0 := Lib.hid (fun y0 y1 d0 d1 z0 z1 e0 e1 w' (h1 : SlDevice w' y0 y1 x0) (h2 : SlDevice w' z0 z1 x0) => eqDevice_any true x0 y0 y1 d0 d1 x0 z0 z1 e0 e1 w' (by simp) (wtDevice_len (by omega)) (wtDevice_len (by omega)) h1 h2)
      have TO1 := Lib.hid (fun w' (hb : Below w.heap.size w w') => toStringS_any s1 xs1 cap1 w' hn1 (hsl1.below hb (Nat.le_refl _)))
      have EX1 := Lib.hid (fun x d y d' w' (h1 : SlS rowString w' x xs1) (h2 : SlS rowString w' y xs1) => eqStringS_any true x y xs1 xs1 d d' w' (by simp) (by omega) (by omega) h1 h2)
      have hsp := fun g0_0 g0_1 g1 w' (h0 : SlDevice w' (some ⟨g0_0, 0, none⟩) (some ⟨g0_1, 0, none⟩) x0) (h1 : SlS rowString w' (some ⟨g1, 0, none⟩) xs1) => specStoreBlocks_any x0 (some ⟨g0_0, 0, none⟩) (some ⟨g0_1, 0, none⟩) (x0.f0.f4.length) (x0.f3.length) (some ⟨g1, 0, none⟩) xs1.length xs1 hn0 hv0 hn1 hv1 w' h0 h1
      have him := fun g0_0 g0_1 g1 w' (h0 : SlDevice w' (some ⟨g0_0, 0, none⟩) (some ⟨g0_1, 0, none⟩) x0) (h1 : SlS rowString w' (some ⟨g1, 0, none⟩) xs1) => storeBlocks_any x0 (some ⟨g0_0, 0, none⟩) (some ⟨g0_1, 0, none⟩) (x0.f0.f4.length) (x0.f3.length) (some ⟨g1, 0, none⟩) xs1.length xs1 hn0 hv0 hn1 hv1 w' h0 h1
      have hR := stV_len x0 xs1 hn0
      generalize stV x0 xs1 = rr at hsp him hR
      have heq := fun x0 x1 d0 d1 y0 y1 e0 e1 w' (h1 : SlDevice w' x0 x1 rr) (h2 : SlDevice w' y0 y1 rr) => eqDevice_any true rr x0 x1 d0 d1 rr y0 y1 e0 e1 w' (by simp) (hR.mono (by omega)) (hR.mono (by omega)) h1 h2
      have hmk := fun x0 x1 d0 d1 B C w' hC h => markDevice_sm rr x0 x1 d0 d1 1 B C w' hR (by omega) (by omega) hC h
      have hhd := fun x0 x1 d0 d1 w' (h : SlDevice w' x0 x1 (mkNDevice rr 1)) => heldDevice_any rr x0 x1 d0 d1 1 w' hR (by omega) (by omega) h
      unfold MarkedNDevice at hmk
      have hk1 : 1 + cntDevice rr ≤ 134217728 := by have := cntDevice_le hR; omega
      obtain ⟨kr, hkr⟩ : ∃ m, 1 + cntDevice rr = m := ⟨_, rfl⟩
      rw [hkr] at hmk hhd hk1
      have hkk : ((kr : Int) != (kr : Int)) = false := by simp
      have hkr0 : ¬ ((kr : Int) < 0) := by omega
      have hmx0 := fun g0 g1 B C w' hC h => markDevice_sm x0 (some ⟨g0, 0, none⟩) (some ⟨g1, 0, none⟩) (x0.f0.f4.length) (x0.f3.length) 1 B C w' hn0 (by omega) (by omega) hC h
      unfold MarkedNDevice at hmx0
      have hxb0 : 1 + cntDevice x0 ≤ 16777216 := by have := cntDevice_le hn0; omega
      have hxp0 : 0 < 1 + cntDevice x0 := by omega
      obtain ⟨kx0, hkx0⟩ : ∃ m, 1 + cntDevice x0 = m := ⟨_, rfl⟩
      rw [hkx0] at hmx0 hxb0 hxp0
      have hkxz0 : ¬ ((kx0 : Int) < 0) := by omega
      have MX0 := Lib.hid hmx0; clear hmx0
      have hmx1 := fun g B C w' hC h => markStringS_sm (some ⟨g, 0, none⟩) xs1 xs1.length kx0 B C w' (by omega) (by omega) (by omega) hC h
      unfold MarkedS at hmx1
      simp only [Nat.one_mul] at hmx1
      have hxb1 : kx0 + xs1.length ≤ 134217728 := by omega
      have hxp1 : 0 < kx0 + xs1.length := by omega
      obtain ⟨kx1, hkx1⟩ : ∃ m, kx0 + xs1.length = m := ⟨_, rfl⟩
      rw [hkx1] at hmx1 hxb1 hxp1
      have hkxz1 : ¬ ((kx1 : Int) < 0) := by omega
      have MX1 := Lib.hid hmx1; clear hmx1
      have EQ := Lib.hid heq; have MK := Lib.hid hmk; have HD := Lib.hid hhd; clear heq hmk hhd
      generalize stC x0 xs1 = r1 at hsp him
      have hvq1 : (r1 != r1) = false := by simp
      have SP := Lib.hid hsp; have IM := Lib.hid him; clear hsp him hsl0 hsl1
      go_enter Try.func8, Try.ntmps8
      have FB := Lib.hid (show Below w.heap.size w w from Below.refl _ _)
      have FN : w.heap.size ≤ w.heap.size := Nat.le_refl _
      have hS := Sm.alloc w (.cells #[.int .i64 x0.f0.f0, .int .i64 x0.f0.f1, .int .i64 x0.f0.f2, .int .i64 x0.f0.f3, .slice s0_0 x0.f0.f4.length cap0_0, .int .i64 x0.f1, .int .i64 x0.f2, .slice s0_1 x0.f3.length cap0_1] 27)
      have BX0 := Lib.hid (BoxAt.new w #[.int .i64 x0.f0.f0, .int .i64 x0.f0.f1, .int .i64 x0.f0.f2, .int .i64 x0.f0.f3, .slice s0_0 x0.f0.f4.length cap0_0, .int .i64 x0.f1, .int .i64 x0.f2, .slice s0_1 x0.f3.length cap0_1] 27 w.heap.size rfl)
      replace FB := Lib.hid (below_new FB.out FN (.cells #[.int .i64 x0.f0.f0, .int .i64 x0.f0.f1, .int .i64 x0.f0.f2, .int .i64 x0.f0.f3, .slice s0_0 x0.f0.f4.length cap0_0, .int .i64 x0.f1, .int .i64 x0.f2, .slice s0_1 x0.f3.length cap0_1] 27))
      have hq1 : (w.alloc (.cells #[.int .i64 x0.f0.f0, .int .i64 x0.f0.f1, .int .i64 x0.f0.f2, .int .i64 x0.f0.f3, .slice s0_0 x0.f0.f4.length cap0_0, .int .i64 x0.f1, .int .i64 x0.f2, .slice s0_1 x0.f3.length cap0_1] 27)).heap.size = w.heap.size + 1 := by simp
      replace FN : w.heap.size ≤ (w.alloc (.cells #[.int .i64 x0.f0.f0, .int .i64 x0.f0.f1, .int .i64 x0.f0.f2, .int .i64 x0.f0.f3, .slice s0_0 x0.f0.f4.length cap0_0, .int .i64 x0.f1, .int .i64 x0.f2, .slice s0_1 x0.f3.length cap0_1] 27)).heap.size := by omega
      clear hS
      have xBX00 := BX0.out 0 _ rfl
      have xBX01 := BX0.out 1 _ rfl
      have xBX02 := BX0.out 2 _ rfl
      have xBX03 := BX0.out 3 _ rfl
      have xBX04 := BX0.out 4 _ rfl
      have xBX05 := BX0.out 5 _ rfl
      have xBX06 := BX0.out 6 _ rfl
      have xBX07 := BX0.out 7 _ rfl
      go_wp2_with fail
      refine (SZ0.out _ FB.out).mono ?_
      rintro e w2_ ⟨rfl, hb2⟩
      clear xBX00 xBX01 xBX02 xBX03 xBX04 xBX05 xBX06 xBX07
      have hS := Sm.of_below hb2
      replace BX0 := Lib.hid (BX0.out.sm hS (by omega))
      replace FB := Lib.hid (below_step FB.out FN hb2)
      have hzw2_ := hb2.size
      replace FN := Nat.le_trans FN hzw2_
      clear hS hb2
      go_wp2_with fail
      refine (SZ1.out _ FB.out).mono ?_
      rintro e w3_ ⟨rfl, hb3⟩
      have hS := Sm.of_below hb3
      replace BX0 := Lib.hid (BX0.out.sm hS (by omega))
      replace FB := Lib.hid (below_step FB.out FN hb3)
      have hzw3_ := hb3.size
      replace FN := Nat.le_trans FN hzw3_
      clear hS hb3
      have xBX00 := BX0.out 0 _ rfl
      have xBX01 := BX0.out 1 _ rfl
      have xBX02 := BX0.out 2 _ rfl
      have xBX03 := BX0.out 3 _ rfl
      have xBX04 := BX0.out 4 _ rfl
      have xBX05 := BX0.out 5 _ rfl
      have xBX06 := BX0.out 6 _ rfl
      have xBX07 := BX0.out 7 _ rfl
      go_wp2_with fail
      refine (TO0.out _ FB.out).mono ?_
      rintro e w4_ ⟨g4_0, g4_1, rfl, hrow4, hb4⟩
      clear xBX00 xBX01 xBX02 xBX03 xBX04 xBX05 xBX06 xBX07
      have hS := Sm.of_below hb4
      replace BX0 := Lib.hid (BX0.out.sm hS (by omega))
      replace FB := Lib.hid (below_step FB.out FN hb4)
      have hzw4_ := hb4.size
      replace FN := Nat.le_trans FN hzw4_
      clear hS hb4
      have R0 := Lib.hid hrow4
      clear hrow4
      go_wp2_with fail
      refine (TO1.out _ FB.out).mono ?_
      rintro e w5_ ⟨g5, rfl, hrow5, hg5, hb5⟩
      have hS := Sm.of_below hb5
      replace BX0 := Lib.hid (BX0.out.sm hS (by omega))
      replace R0 := Lib.hid (R0.out.sm hS (by omega))
      replace FB := Lib.hid (below_step FB.out FN hb5)
      have hzw5_ := hb5.size
      replace FN := Nat.le_trans FN hzw5_
      clear hS hb5
      have R1 := Lib.hid (hrow5.sli hg5)
      clear hrow5 hg5
      go_wp2_with fail
      refine (SP.out _ _ _ _ R0.out.sl R1.out.sl).mono ?_
      rintro e w6_ ⟨s6_0, s6_1, d6_0, d6_1, rfl, hso6, hb6⟩
      have hS := Sm.of_below hb6
      replace BX0 := Lib.hid (BX0.out.sm hS (by omega))
      replace R0 := Lib.hid (R0.out.sm hS (by omega))
      replace R1 := Lib.hid (R1.out.sm hS (by omega))
      replace FB := Lib.hid (below_step FB.out FN hb6)
      have hzw6_ := hb6.size
      replace FN := Nat.le_trans FN hzw6_
      clear hS hb6
      have RS := Lib.hid hso6.within
      clear hso6
      have hS := Sm.alloc w6_ (.cells #[.int .i64 rr.f0.f0, .int .i64 rr.f0.f1, .int .i64 rr.f0.f2, .int .i64 rr.f0.f3, .slice s6_0 rr.f0.f4.length d6_0, .int .i64 rr.f1, .int .i64 rr.f2, .slice s6_1 rr.f3.length d6_1] 34)
      replace BX0 := Lib.hid (BX0.out.sm hS (by omega))
      replace R0 := Lib.hid (R0.out.sm hS (by omega))
      replace R1 := Lib.hid (R1.out.sm hS (by omega))
      replace RS := Lib.hid (RS.out.sm hS (by omega))
      have CS := Lib.hid (BoxAt.new w6_ #[.int .i64 rr.f0.f0, .int .i64 rr.f0.f1, .int .i64 rr.f0.f2, .int .i64 rr.f0.f3, .slice s6_0 rr.f0.f4.length d6_0, .int .i64 rr.f1, .int .i64 rr.f2, .slice s6_1 rr.f3.length d6_1] 34 w6_.heap.size rfl)
      replace FB := Lib.hid (below_new FB.out FN (.cells #[.int .i64 rr.f0.f0, .int .i64 rr.f0.f1, .int .i64 rr.f0.f2, .int .i64 rr.f0.f3, .slice s6_0 rr.f0.f4.length d6_0, .int .i64 rr.f1, .int .i64 rr.f2, .slice s6_1 rr.f3.length d6_1] 34))
      have hq7 : (w6_.alloc (.cells #[.int .i64 rr.f0.f0, .int .i64 rr.f0.f1, .int .i64 rr.f0.f2, .int .i64 rr.f0.f3, .slice s6_0 rr.f0.f4.length d6_0, .int .i64 rr.f1, .int .i64 rr.f2, .slice s6_1 rr.f3.length d6_1] 34)).heap.size = w6_.heap.size + 1 := by simp
      replace FN : w.heap.size ≤ (w6_.alloc (.cells #[.int .i64 rr.f0.f0, .int .i64 rr.f0.f1, .int .i64 rr.f0.f2, .int .i64 rr.f0.f3, .slice s6_0 rr.f0.f4.length d6_0, .int .i64 rr.f1, .int .i64 rr.f2, .slice s6_1 rr.f3.length d6_1] 34)).heap.size := by omega
      clear hS
      clear R0
      clear R1
      have xBX00 := BX0.out 0 _ rfl
      have xBX01 := BX0.out 1 _ rfl
      have xBX02 := BX0.out 2 _ rfl
      have xBX03 := BX0.out 3 _ rfl
      have xBX04 := BX0.out 4 _ rfl
      have xBX05 := BX0.out 5 _ rfl
      have xBX06 := BX0.out 6 _ rfl
      have xBX07 := BX0.out 7 _ rfl
      go_wp2_with fail
      refine (TO0.out _ FB.out).mono ?_
      rintro e w8_ ⟨g8_0, g8_1, rfl, hrow8, hb8⟩
      clear xBX00 xBX01 xBX02 xBX03 xBX04 xBX05 xBX06 xBX07
      have hS := Sm.of_below hb8
      replace BX0 := Lib.hid (BX0.out.sm hS (by omega))
      replace RS := Lib.hid (RS.out.sm hS (by omega))
      replace CS := Lib.hid (CS.out.sm hS (by omega))
      replace FB := Lib.hid (below_step FB.out FN hb8)
      have hzw8_ := hb8.size
      replace FN := Nat.le_trans FN hzw8_
      clear hS hb8
      have X0 := Lib.hid hrow8
      clear hrow8
      have hS := Sm.alloc w8_ (.cells #[.int .i64 x0.f0.f0, .int .i64 x0.f0.f1, .int .i64 x0.f0.f2, .int .i64 x0.f0.f3, .slice (some ⟨g8_0, 0, none⟩) x0.f0.f4.length x0.f0.f4.length, .int .i64 x0.f1, .int .i64 x0.f2, .slice (some ⟨g8_1, 0, none⟩) x0.f3.length x0.f3.length] 34)
      replace BX0 := Lib.hid (BX0.out.sm hS (by omega))
      replace RS := Lib.hid (RS.out.sm hS (by omega))
      replace CS := Lib.hid (CS.out.sm hS (by omega))
      replace X0 := Lib.hid (X0.out.sm hS (by omega))
      have CX0 := Lib.hid (BoxAt.new w8_ #[.int .i64 x0.f0.f0, .int .i64 x0.f0.f1, .int .i64 x0.f0.f2, .int .i64 x0.f0.f3, .slice (some ⟨g8_0, 0, none⟩) x0.f0.f4.length x0.f0.f4.length, .int .i64 x0.f1, .int .i64 x0.f2, .slice (some ⟨g8_1, 0, none⟩) x0.f3.length x0.f3.length] 34 w8_.heap.size rfl)
      replace FB := Lib.hid (below_new FB.out FN (.cells #[.int .i64 x0.f0.f0, .int .i64 x0.f0.f1, .int .i64 x0.f0.f2, .int .i64 x0.f0.f3, .slice (some ⟨g8_0, 0, none⟩) x0.f0.f4.length x0.f0.f4.length, .int .i64 x0.f1, .int .i64 x0.f2, .slice (some ⟨g8_1, 0, none⟩) x0.f3.length x0.f3.length] 34))
      have hq9 : (w8_.alloc (.cells #[.int .i64 x0.f0.f0, .int .i64 x0.f0.f1, .int .i64 x0.f0.f2, .int .i64 x0.f0.f3, .slice (some ⟨g8_0, 0, none⟩) x0.f0.f4.length x0.f0.f4.length, .int .i64 x0.f1, .int .i64 x0.f2, .slice (some ⟨g8_1, 0, none⟩) x0.f3.length x0.f3.length] 34)).heap.size = w8_.heap.size + 1 := by simp
      replace FN : w.heap.size ≤ (w8_.alloc (.cells #[.int .i64 x0.f0.f0, .int .i64 x0.f0.f1, .int .i64 x0.f0.f2, .int .i64 x0.f0.f3, .slice (some ⟨g8_0, 0, none⟩) x0.f0.f4.length x0.f0.f4.length, .int .i64 x0.f1, .int .i64 x0.f2, .slice (some ⟨g8_1, 0, none⟩) x0.f3.length x0.f3.length] 34)).heap.size := by omega
      clear hS
      go_wp2_with fail
      refine (TO1.out _ FB.out).mono ?_
      rintro e w10_ ⟨g10, rfl, hrow10, hg10, hb10⟩
      have hS := Sm.of_below hb10
      replace BX0 := Lib.hid (BX0.out.sm hS (by omega))
      replace RS := Lib.hid (RS.out.sm hS (by omega))
      replace CS := Lib.hid (CS.out.sm hS (by omega))
      replace X0 := Lib.hid (X0.out.sm hS (by omega))
      replace CX0 := Lib.hid (CX0.out.sm hS (by omega))
      replace FB := Lib.hid (below_step FB.out FN hb10)
      have hzw10_ := hb10.size
      replace FN := Nat.le_trans FN hzw10_
      clear hS hb10
      have X1 := Lib.hid (hrow10.sli hg10)
      clear hrow10 hg10
      have xCX00 := CX0.out 0 _ rfl
      have xCX01 := CX0.out 1 _ rfl
      have xCX02 := CX0.out 2 _ rfl
      have xCX03 := CX0.out 3 _ rfl
      have xCX04 := CX0.out 4 _ rfl
      have xCX05 := CX0.out 5 _ rfl
      have xCX06 := CX0.out 6 _ rfl
      have xCX07 := CX0.out 7 _ rfl
      go_wp2_with fail
      refine (IM.out _ _ _ _ X0.out.sl X1.out.sl).mono ?_
      rintro e w11_ ⟨s11_0, s11_1, d11_0, d11_1, rfl, hso11, hb11⟩
      clear xCX00 xCX01 xCX02 xCX03 xCX04 xCX05 xCX06 xCX07
      have hS := Sm.of_below hb11
      replace BX0 := Lib.hid (BX0.out.sm hS (by omega))
      replace RS := Lib.hid (RS.out.sm hS (by omega))
      replace CS := Lib.hid (CS.out.sm hS (by omega))
      replace X0 := Lib.hid (X0.out.sm hS (by omega))
      replace CX0 := Lib.hid (CX0.out.sm hS (by omega))
      replace X1 := Lib.hid (X1.out.sm hS (by omega))
      replace FB := Lib.hid (below_step FB.out FN hb11)
      have hzw11_ := hb11.size
      replace FN := Nat.le_trans FN hzw11_
      clear hS hb11
      have RG := Lib.hid hso11.within
      clear hso11
      have hS := Sm.alloc w11_ (.cells #[.int .i64 rr.f0.f0, .int .i64 rr.f0.f1, .int .i64 rr.f0.f2, .int .i64 rr.f0.f3, .slice s11_0 rr.f0.f4.length d11_0, .int .i64 rr.f1, .int .i64 rr.f2, .slice s11_1 rr.f3.length d11_1] 34)
      replace BX0 := Lib.hid (BX0.out.sm hS (by omega))
      replace RS := Lib.hid (RS.out.sm hS (by omega))
      replace CS := Lib.hid (CS.out.sm hS (by omega))
      replace X0 := Lib.hid (X0.out.sm hS (by omega))
      replace CX0 := Lib.hid (CX0.out.sm hS (by omega))
      replace X1 := Lib.hid (X1.out.sm hS (by omega))
      replace RG := Lib.hid (RG.out.sm hS (by omega))
      have CG := Lib.hid (BoxAt.new w11_ #[.int .i64 rr.f0.f0, .int .i64 rr.f0.f1, .int .i64 rr.f0.f2, .int .i64 rr.f0.f3, .slice s11_0 rr.f0.f4.length d11_0, .int .i64 rr.f1, .int .i64 rr.f2, .slice s11_1 rr.f3.length d11_1] 34 w11_.heap.size rfl)
      replace FB := Lib.hid (below_new FB.out FN (.cells #[.int .i64 rr.f0.f0, .int .i64 rr.f0.f1, .int .i64 rr.f0.f2, .int .i64 rr.f0.f3, .slice s11_0 rr.f0.f4.length d11_0, .int .i64 rr.f1, .int .i64 rr.f2, .slice s11_1 rr.f3.length d11_1] 34))
      have hq12 : (w11_.alloc (.cells #[.int .i64 rr.f0.f0, .int .i64 rr.f0.f1, .int .i64 rr.f0.f2, .int .i64 rr.f0.f3, .slice s11_0 rr.f0.f4.length d11_0, .int .i64 rr.f1, .int .i64 rr.f2, .slice s11_1 rr.f3.length d11_1] 34)).heap.size = w11_.heap.size + 1 := by simp
      replace FN : w.heap.size ≤ (w11_.alloc (.cells #[.int .i64 rr.f0.f0, .int .i64 rr.f0.f1, .int .i64 rr.f0.f2, .int .i64 rr.f0.f3, .slice s11_0 rr.f0.f4.length d11_0, .int .i64 rr.f1, .int .i64 rr.f2, .slice s11_1 rr.f3.length d11_1] 34)).heap.size := by omega
      clear hS
      have xCG0 := CG.out 0 _ rfl
      have xCG1 := CG.out 1 _ rfl
      have xCG2 := CG.out 2 _ rfl
      have xCG3 := CG.out 3 _ rfl
      have xCG4 := CG.out 4 _ rfl
      have xCG5 := CG.out 5 _ rfl
      have xCG6 := CG.out 6 _ rfl
      have xCG7 := CG.out 7 _ rfl
      have xCS0 := CS.out 0 _ rfl
      have xCS1 := CS.out 1 _ rfl
      have xCS2 := CS.out 2 _ rfl
      have xCS3 := CS.out 3 _ rfl
      have xCS4 := CS.out 4 _ rfl
      have xCS5 := CS.out 5 _ rfl
      have xCS6 := CS.out 6 _ rfl
      have xCS7 := CS.out 7 _ rfl
      go_wp2_with fail
      refine (EQ.out _ _ _ _ _ _ _ _ _ RG.out.sl RS.out.sl).mono ?_
      rintro e w13_ ⟨rfl, hb13⟩
      clear xCG0 xCG1 xCG2 xCG3 xCG4 xCG5 xCG6 xCG7
      clear xCS0 xCS1 xCS2 xCS3 xCS4 xCS5 xCS6 xCS7
      have hS := Sm.of_below hb13
      replace BX0 := Lib.hid (BX0.out.sm hS (by omega))
      replace RS := Lib.hid (RS.out.sm hS (by omega))
      replace CS := Lib.hid (CS.out.sm hS (by omega))
      replace X0 := Lib.hid (X0.out.sm hS (by omega))
      replace CX0 := Lib.hid (CX0.out.sm hS (by omega))
      replace X1 := Lib.hid (X1.out.sm hS (by omega))
      replace RG := Lib.hid (RG.out.sm hS (by omega))
      replace CG := Lib.hid (CG.out.sm hS (by omega))
      replace FB := Lib.hid (below_step FB.out FN hb13)
      have hzw13_ := hb13.size
      replace FN := Nat.le_trans FN hzw13_
      clear hS hb13
      have hlCX0 := CX0.out.lt (by simp)
      have hlBX0 := BX0.out.lt (by simp)
      have xCX00 := CX0.out 0 _ rfl
      have xCX01 := CX0.out 1 _ rfl
      have xCX02 := CX0.out 2 _ rfl
      have xCX03 := CX0.out 3 _ rfl
      have xCX04 := CX0.out 4 _ rfl
      have xCX05 := CX0.out 5 _ rfl
      have xCX06 := CX0.out 6 _ rfl
      have xCX07 := CX0.out 7 _ rfl
      have xBX00 := BX0.out 0 _ rfl
      have xBX01 := BX0.out 1 _ rfl
      have xBX02 := BX0.out 2 _ rfl
      have xBX03 := BX0.out 3 _ rfl
      have xBX04 := BX0.out 4 _ rfl
      have xBX05 := BX0.out 5 _ rfl
      have xBX06 := BX0.out 6 _ rfl
      have xBX07 := BX0.out 7 _ rfl
      have KS := Lib.hid (fun w' (hb : Below w13_.heap.size w13_ w') => (show (w'.cell? ⟨w8_.heap.size, 0, none⟩ = some (.int .i64 x0.f0.f0) ∧ w'.cell? ⟨w8_.heap.size, 1, none⟩ = some (.int .i64 x0.f0.f1) ∧ w'.cell? ⟨w8_.heap.size, 2, none⟩ = some (.int .i64 x0.f0.f2) ∧ w'.cell? ⟨w8_.heap.size, 3, none⟩ = some (.int .i64 x0.f0.f3) ∧ w'.cell? ⟨w8_.heap.size, 4, none⟩ = some (.slice (some ⟨g8_0, 0, none⟩) x0.f0.f4.length x0.f0.f4.length) ∧ w'.cell? ⟨w8_.heap.size, 5, none⟩ = some (.int .i64 x0.f1) ∧ w'.cell? ⟨w8_.heap.size, 6, none⟩ = some (.int .i64 x0.f2) ∧ w'.cell? ⟨w8_.heap.size, 7, none⟩ = some (.slice (some ⟨g8_1, 0, none⟩) x0.f3.length x0.f3.length)) ∧ (w'.cell? ⟨w.heap.size, 0, none⟩ = some (.int .i64 x0.f0.f0) ∧ w'.cell? ⟨w.heap.size, 1, none⟩ = some (.int .i64 x0.f0.f1) ∧ w'.cell? ⟨w.heap.size, 2, none⟩ = some (.int .i64 x0.f0.f2) ∧ w'.cell? ⟨w.heap.size, 3, none⟩ = some (.int .i64 x0.f0.f3) ∧ w'.cell? ⟨w.heap.size, 4, none⟩ = some (.slice s0_0 x0.f0.f4.length cap0_0) ∧ w'.cell? ⟨w.heap.size, 5, none⟩ = some (.int .i64 x0.f1) ∧ w'.cell? ⟨w.heap.size, 6, none⟩ = some (.int .i64 x0.f2) ∧ w'.cell? ⟨w.heap.size, 7, none⟩ = some (.slice s0_1 x0.f3.length cap0_1)) from ⟨⟨(CX0.out.below hb hlCX0) 0 _ rfl, (CX0.out.below hb hlCX0) 1 _ rfl, (CX0.out.below hb hlCX0) 2 _ rfl, (CX0.out.below hb hlCX0) 3 _ rfl, (CX0.out.below hb hlCX0) 4 _ rfl, (CX0.out.below hb hlCX0) 5 _ rfl, (CX0.out.below hb hlCX0) 6 _ rfl, (CX0.out.below hb hlCX0) 7 _ rfl⟩, ⟨(BX0.out.below hb hlBX0) 0 _ rfl, (BX0.out.below hb hlBX0) 1 _ rfl, (BX0.out.below hb hlBX0) 2 _ rfl, (BX0.out.below hb hlBX0) 3 _ rfl, (BX0.out.below hb hlBX0) 4 _ rfl, (BX0.out.below hb hlBX0) 5 _ rfl, (BX0.out.below hb hlBX0) 6 _ rfl, (BX0.out.below hb hlBX0) 7 _ rfl⟩⟩))
      have hks : (w13_.cell? ⟨w8_.heap.size, 0, none⟩ = some (.int .i64 x0.f0.f0) ∧ w13_.cell? ⟨w8_.heap.size, 1, none⟩ = some (.int .i64 x0.f0.f1) ∧ w13_.cell? ⟨w8_.heap.size, 2, none⟩ = some (.int .i64 x0.f0.f2) ∧ w13_.cell? ⟨w8_.heap.size, 3, none⟩ = some (.int .i64 x0.f0.f3) ∧ w13_.cell? ⟨w8_.heap.size, 4, none⟩ = some (.slice (some ⟨g8_0, 0, none⟩) x0.f0.f4.length x0.f0.f4.length) ∧ w13_.cell? ⟨w8_.heap.size, 5, none⟩ = some (.int .i64 x0.f1) ∧ w13_.cell? ⟨w8_.heap.size, 6, none⟩ = some (.int .i64 x0.f2) ∧ w13_.cell? ⟨w8_.heap.size, 7, none⟩ = some (.slice (some ⟨g8_1, 0, none⟩) x0.f3.length x0.f3.length)) ∧ (w13_.cell? ⟨w.heap.size, 0, none⟩ = some (.int .i64 x0.f0.f0) ∧ w13_.cell? ⟨w.heap.size, 1, none⟩ = some (.int .i64 x0.f0.f1) ∧ w13_.cell? ⟨w.heap.size, 2, none⟩ = some (.int .i64 x0.f0.f2) ∧ w13_.cell? ⟨w.heap.size, 3, none⟩ = some (.int .i64 x0.f0.f3) ∧ w13_.cell? ⟨w.heap.size, 4, none⟩ = some (.slice s0_0 x0.f0.f4.length cap0_0) ∧ w13_.cell? ⟨w.heap.size, 5, none⟩ = some (.int .i64 x0.f1) ∧ w13_.cell? ⟨w.heap.size, 6, none⟩ = some (.int .i64 x0.f2) ∧ w13_.cell? ⟨w.heap.size, 7, none⟩ = some (.slice s0_1 x0.f3.length cap0_1)) := KS.out _ (Below.refl _ _)
      have FBX := Lib.hid (fun w' (hb : Below w13_.heap.size w13_ w') => (show Below w.heap.size w w' from FB.out.trans (hb.mono FN)))
      have HC := Lib.hid (show Below w13_.heap.size w13_ w13_.drew from (Below.refl _ _).drew)
      replace RS := Lib.hid RS.out.drew
      replace X0 := Lib.hid X0.out.drew
      replace X1 := Lib.hid X1.out.drew
      replace RG := Lib.hid RG.out.drew
      go_wp2
      go_region_held3 (fun w' => (w'.cell? ⟨w8_.heap.size, 0, none⟩ = some (.int .i64 x0.f0.f0) ∧ w'.cell? ⟨w8_.heap.size, 1, none⟩ = some (.int .i64 x0.f0.f1) ∧ w'.cell? ⟨w8_.heap.size, 2, none⟩ = some (.int .i64 x0.f0.f2) ∧ w'.cell? ⟨w8_.heap.size, 3, none⟩ = some (.int .i64 x0.f0.f3) ∧ w'.cell? ⟨w8_.heap.size, 4, none⟩ = some (.slice (some ⟨g8_0, 0, none⟩) x0.f0.f4.length x0.f0.f4.length) ∧ w'.cell? ⟨w8_.heap.size, 5, none⟩ = some (.int .i64 x0.f1) ∧ w'.cell? ⟨w8_.heap.size, 6, none⟩ = some (.int .i64 x0.f2) ∧ w'.cell? ⟨w8_.heap.size, 7, none⟩ = some (.slice (some ⟨g8_1, 0, none⟩) x0.f3.length x0.f3.length)) ∧ (w'.cell? ⟨w.heap.size, 0, none⟩ = some (.int .i64 x0.f0.f0) ∧ w'.cell? ⟨w.heap.size, 1, none⟩ = some (.int .i64 x0.f0.f1) ∧ w'.cell? ⟨w.heap.size, 2, none⟩ = some (.int .i64 x0.f0.f2) ∧ w'.cell? ⟨w.heap.size, 3, none⟩ = some (.int .i64 x0.f0.f3) ∧ w'.cell? ⟨w.heap.size, 4, none⟩ = some (.slice s0_0 x0.f0.f4.length cap0_0) ∧ w'.cell? ⟨w.heap.size, 5, none⟩ = some (.int .i64 x0.f1) ∧ w'.cell? ⟨w.heap.size, 6, none⟩ = some (.int .i64 x0.f2) ∧ w'.cell? ⟨w.heap.size, 7, none⟩ = some (.slice s0_1 x0.f3.length cap0_1)))
        (first | (with_reducible exact KS.out _ HC.out) | (with_reducible exact KS.out _ (HC.out.alloc HC.out.size _)) | go_keep)
        (first
          | (go_at_call 13; ((with_reducible refine (TO0.out _ (FBX.out _ HC.out)).mono ?_); rintro e wt0 ⟨gt0_0, gt0_1, rfl, hrowt0, hbt0⟩; (try (replace RS := Lib.hid (RS.out.sm (Sm.of_below hbt0) (by omega)))); (try (replace X0 := Lib.hid (X0.out.sm (Sm.of_below hbt0) (by omega)))); (try (replace X1 := Lib.hid (X1.out.sm (Sm.of_below hbt0) (by omega)))); (try (replace RG := Lib.hid (RG.out.sm (Sm.of_below hbt0) (by omega)))); (try (replace Y0 := Lib.hid (Y0.out.sm (Sm.of_below hbt0) (by omega)))); replace HC := Lib.hid (HC.out.trans (hbt0.mono HC.out.size)); have Y0 := Lib.hid hrowt0))
          | (go_at_call 15; ((with_reducible refine (EX0.out _ _ _ _ _ _ _ _ _ X0.out.sl Y0.out.sl).mono ?_); rintro e w14_ ⟨rfl, hb14⟩; have hbf14 := HC.out.size; (try (replace RS := Lib.hid (RS.out.sm (Sm.of_below hb14) (by omega)))); (try (replace X0 := Lib.hid (X0.out.sm (Sm.of_below hb14) (by omega)))); (try (replace X1 := Lib.hid (X1.out.sm (Sm.of_below hb14) (by omega)))); (try (replace RG := Lib.hid (RG.out.sm (Sm.of_below hb14) (by omega)))); (try (replace Y0 := Lib.hid (Y0.out.sm (Sm.of_below hb14) (by omega)))); replace HC := Lib.hid (HC.out.trans (hb14.mono HC.out.size)); skip))
          | fail)
      all_goals
        replace CX0 := Lib.hid (CX0.out.below HC.out hlCX0)
        replace BX0 := Lib.hid (BX0.out.below HC.out hlBX0)
        replace CS := Lib.hid (CS.out.sm (Sm.of_below HC.out) (by omega))
        replace CG := Lib.hid (CG.out.sm (Sm.of_below HC.out) (by omega))
        replace FB := Lib.hid (FBX.out _ HC.out)
        have hzz14 := HC.out.size
        replace FN := Nat.le_trans FN hzz14
        clear hks KS HC FBX hlCX0 hlBX0
        clear hbf14
        clear xCX00 xCX01 xCX02 xCX03 xCX04 xCX05 xCX06 xCX07
        clear xBX00 xBX01 xBX02 xBX03 xBX04 xBX05 xBX06 xBX07
        clear hrowt0
        clear hbt0
        clear Y0
        go_wp2_with fail
        refine (TO1.out _ FB.out).mono ?_
        rintro e w15_ ⟨g15, rfl, hrow15, hg15, hb15⟩
        have hS := Sm.of_below hb15
        replace BX0 := Lib.hid (BX0.out.sm hS (by omega))
        replace RS := Lib.hid (RS.out.sm hS (by omega))
        replace CS := Lib.hid (CS.out.sm hS (by omega))
        replace X0 := Lib.hid (X0.out.sm hS (by omega))
        replace CX0 := Lib.hid (CX0.out.sm hS (by omega))
        replace X1 := Lib.hid (X1.out.sm hS (by omega))
        replace RG := Lib.hid (RG.out.sm hS (by omega))
        replace CG := Lib.hid (CG.out.sm hS (by omega))
        replace FB := Lib.hid (below_step FB.out FN hb15)
        have hzw15_ := hb15.size
        replace FN := Nat.le_trans FN hzw15_
        clear hS hb15
        have Y1 := Lib.hid (hrow15.sli hg15)
        clear hrow15 hg15
        go_wp2_with fail
        refine (EX1.out _ _ _ _ _ X1.out.sl Y1.out.sl).mono ?_
        rintro e w16_ ⟨rfl, hb16⟩
        have hS := Sm.of_below hb16
        replace BX0 := Lib.hid (BX0.out.sm hS (by omega))
        replace RS := Lib.hid (RS.out.sm hS (by omega))
        replace CS := Lib.hid (CS.out.sm hS (by omega))
        replace X0 := Lib.hid (X0.out.sm hS (by omega))
        replace CX0 := Lib.hid (CX0.out.sm hS (by omega))
        replace X1 := Lib.hid (X1.out.sm hS (by omega))
        replace RG := Lib.hid (RG.out.sm hS (by omega))
        replace CG := Lib.hid (CG.out.sm hS (by omega))
        replace Y1 := Lib.hid (Y1.out.sm hS (by omega))
        replace FB := Lib.hid (below_step FB.out FN hb16)
        have hzw16_ := hb16.size
        replace FN := Nat.le_trans FN hzw16_
        clear hS hb16
        clear Y1
        have xCX00 := CX0.out 0 _ rfl
        have xCX01 := CX0.out 1 _ rfl
        have xCX02 := CX0.out 2 _ rfl
        have xCX03 := CX0.out 3 _ rfl
        have xCX04 := CX0.out 4 _ rfl
        have xCX05 := CX0.out 5 _ rfl
        have xCX06 := CX0.out 6 _ rfl
        have xCX07 := CX0.out 7 _ rfl
        go_wp2_with fail
        refine (MX0.out _ _ (w6_.alloc (.cells #[.int .i64 rr.f0.f0, .int .i64 rr.f0.f1, .int .i64 rr.f0.f2, .int .i64 rr.f0.f3, .slice s6_0 rr.f0.f4.length d6_0, .int .i64 rr.f1, .int .i64 rr.f2, .slice s6_1 rr.f3.length d6_1] 34)).heap.size w8_.heap.size _ (by omega) (X0.out.mono (by omega) (by omega))).mono ?_
        rintro e w17_ ⟨rfl, hmr17, hmb17, hms17⟩
        clear xCX00 xCX01 xCX02 xCX03 xCX04 xCX05 xCX06 xCX07
        clear X0
        replace BX0 := Lib.hid (BX0.out.sm hms17 (by omega))
        replace RS := Lib.hid (RS.out.sm hms17 (by omega))
        replace CS := Lib.hid (CS.out.sm hms17 (by omega))
        replace CX0 := Lib.hid (CX0.out.sm hms17 (by omega))
        replace X1 := Lib.hid (X1.out.sm hms17 (by omega))
        replace RG := Lib.hid (RG.out.sm hms17 (by omega))
        replace CG := Lib.hid (CG.out.sm hms17 (by omega))
        replace FB := Lib.hid (FB.out.trans (hmb17 _ (by omega) FN))
        have hzm17 := hms17.size
        replace FN := Nat.le_trans FN hzm17
        clear hmb17 hms17 hmr17
        go_wp2_with fail
        refine (MX1.out _ (w8_.alloc (.cells #[.int .i64 x0.f0.f0, .int .i64 x0.f0.f1, .int .i64 x0.f0.f2, .int .i64 x0.f0.f3, .slice (some ⟨g8_0, 0, none⟩) x0.f0.f4.length x0.f0.f4.length, .int .i64 x0.f1, .int .i64 x0.f2, .slice (some ⟨g8_1, 0, none⟩) x0.f3.length x0.f3.length] 34)).heap.size w10_.heap.size _ (by omega) (X1.out.mono (by omega) (by omega))).mono ?_
        rintro e w18_ ⟨rfl, hmr18, hmb18, hms18⟩
        clear X1
        replace BX0 := Lib.hid (BX0.out.sm hms18 (by omega))
        replace RS := Lib.hid (RS.out.sm hms18 (by omega))
        replace CS := Lib.hid (CS.out.sm hms18 (by omega))
        replace CX0 := Lib.hid (CX0.out.sm hms18 (by omega))
        replace RG := Lib.hid (RG.out.sm hms18 (by omega))
        replace CG := Lib.hid (CG.out.sm hms18 (by omega))
        replace FB := Lib.hid (FB.out.trans (hmb18 _ (by omega) FN))
        have hzm18 := hms18.size
        replace FN := Nat.le_trans FN hzm18
        clear hmb18 hms18 hmr18
        have xCG0 := CG.out 0 _ rfl
        have xCG1 := CG.out 1 _ rfl
        have xCG2 := CG.out 2 _ rfl
        have xCG3 := CG.out 3 _ rfl
        have xCG4 := CG.out 4 _ rfl
        have xCG5 := CG.out 5 _ rfl
        have xCG6 := CG.out 6 _ rfl
        have xCG7 := CG.out 7 _ rfl
        have xCS0 := CS.out 0 _ rfl
        have xCS1 := CS.out 1 _ rfl
        have xCS2 := CS.out 2 _ rfl
        have xCS3 := CS.out 3 _ rfl
        have xCS4 := CS.out 4 _ rfl
        have xCS5 := CS.out 5 _ rfl
        have xCS6 := CS.out 6 _ rfl
        have xCS7 := CS.out 7 _ rfl
        go_wp2_with fail
        refine (EQ.out _ _ _ _ _ _ _ _ _ RG.out.sl RS.out.sl).mono ?_
        rintro e w19_ ⟨rfl, hb19⟩
        clear xCG0 xCG1 xCG2 xCG3 xCG4 xCG5 xCG6 xCG7
        clear xCS0 xCS1 xCS2 xCS3 xCS4 xCS5 xCS6 xCS7
        have hS := Sm.of_below hb19
        replace BX0 := Lib.hid (BX0.out.sm hS (by omega))
        replace RS := Lib.hid (RS.out.sm hS (by omega))
        replace CS := Lib.hid (CS.out.sm hS (by omega))
        replace CX0 := Lib.hid (CX0.out.sm hS (by omega))
        replace RG := Lib.hid (RG.out.sm hS (by omega))
        replace CG := Lib.hid (CG.out.sm hS (by omega))
        replace FB := Lib.hid (below_step FB.out FN hb19)
        have hzw19_ := hb19.size
        replace FN := Nat.le_trans FN hzw19_
        clear hS hb19
        have xCG0 := CG.out 0 _ rfl
        have xCG1 := CG.out 1 _ rfl
        have xCG2 := CG.out 2 _ rfl
        have xCG3 := CG.out 3 _ rfl
        have xCG4 := CG.out 4 _ rfl
        have xCG5 := CG.out 5 _ rfl
        have xCG6 := CG.out 6 _ rfl
        have xCG7 := CG.out 7 _ rfl
        go_wp2_with fail
        refine (MK.out _ _ _ _ w10_.heap.size w11_.heap.size _ (by omega) (RG.out.mono (by omega) (by omega))).mono ?_
        rintro e w20_ ⟨rfl, hmr20, hmb20, hms20⟩
        clear xCG0 xCG1 xCG2 xCG3 xCG4 xCG5 xCG6 xCG7
        clear RG
        replace BX0 := Lib.hid (BX0.out.sm hms20 (by omega))
        replace RS := Lib.hid (RS.out.sm hms20 (by omega))
        replace CS := Lib.hid (CS.out.sm hms20 (by omega))
        replace CX0 := Lib.hid (CX0.out.sm hms20 (by omega))
        replace CG := Lib.hid (CG.out.sm hms20 (by omega))
        replace FB := Lib.hid (FB.out.trans (hmb20 _ (by omega) FN))
        have hzm20 := hms20.size
        replace FN := Nat.le_trans FN hzm20
        have RM := Lib.hid hmr20
        clear hmb20 hms20 hmr20
        have xCG0 := CG.out 0 _ rfl
        have xCG1 := CG.out 1 _ rfl
        have xCG2 := CG.out 2 _ rfl
        have xCG3 := CG.out 3 _ rfl
        have xCG4 := CG.out 4 _ rfl
        have xCG5 := CG.out 5 _ rfl
        have xCG6 := CG.out 6 _ rfl
        have xCG7 := CG.out 7 _ rfl
        go_wp2_with fail
        refine (HD.out _ _ _ _ _ RM.out.sl).mono ?_
        rintro e w21_ ⟨rfl, hb21⟩
        clear xCG0 xCG1 xCG2 xCG3 xCG4 xCG5 xCG6 xCG7
        have hS := Sm.of_below hb21
        replace BX0 := Lib.hid (BX0.out.sm hS (by omega))
        replace RS := Lib.hid (RS.out.sm hS (by omega))
        replace CS := Lib.hid (CS.out.sm hS (by omega))
        replace CX0 := Lib.hid (CX0.out.sm hS (by omega))
        replace CG := Lib.hid (CG.out.sm hS (by omega))
        replace RM := Lib.hid (RM.out.sm hS (by omega))
        replace FB := Lib.hid (below_step FB.out FN hb21)
        have hzw21_ := hb21.size
        replace FN := Nat.le_trans FN hzw21_
        clear hS hb21
        have xBX00 := BX0.out 0 _ rfl
        have xBX01 := BX0.out 1 _ rfl
        have xBX02 := BX0.out 2 _ rfl
        have xBX03 := BX0.out 3 _ rfl
        have xBX04 := BX0.out 4 _ rfl
        have xBX05 := BX0.out 5 _ rfl
        have xBX06 := BX0.out 6 _ rfl
        have xBX07 := BX0.out 7 _ rfl
        go_wp2_with fail
        refine (TO0.out _ FB.out).mono ?_
        rintro e w22_ ⟨g22_0, g22_1, rfl, hrow22, hb22⟩
        clear xBX00 xBX01 xBX02 xBX03 xBX04 xBX05 xBX06 xBX07
        have hS := Sm.of_below hb22
        replace BX0 := Lib.hid (BX0.out.sm hS (by omega))
        replace RS := Lib.hid (RS.out.sm hS (by omega))
        replace CS := Lib.hid (CS.out.sm hS (by omega))
        replace CX0 := Lib.hid (CX0.out.sm hS (by omega))
        replace CG := Lib.hid (CG.out.sm hS (by omega))
        replace RM := Lib.hid (RM.out.sm hS (by omega))
        replace FB := Lib.hid (below_step FB.out FN hb22)
        have hzw22_ := hb22.size
        replace FN := Nat.le_trans FN hzw22_
        clear hS hb22
        have V0 := Lib.hid hrow22
        clear hrow22
        go_wp2_with fail
        refine (TO1.out _ FB.out).mono ?_
        rintro e w23_ ⟨g23, rfl, hrow23, hg23, hb23⟩
        have hS := Sm.of_below hb23
        replace BX0 := Lib.hid (BX0.out.sm hS (by omega))
        replace RS := Lib.hid (RS.out.sm hS (by omega))
        replace CS := Lib.hid (CS.out.sm hS (by omega))
        replace CX0 := Lib.hid (CX0.out.sm hS (by omega))
        replace CG := Lib.hid (CG.out.sm hS (by omega))
        replace RM := Lib.hid (RM.out.sm hS (by omega))
        replace V0 := Lib.hid (V0.out.sm hS (by omega))
        replace FB := Lib.hid (below_step FB.out FN hb23)
        have hzw23_ := hb23.size
        replace FN := Nat.le_trans FN hzw23_
        clear hS hb23
        have V1 := Lib.hid (hrow23.sli hg23)
        clear hrow23 hg23
        go_wp2_with fail
        refine (IM.out _ _ _ _ V0.out.sl V1.out.sl).mono ?_
        rintro e w24_ ⟨s24_0, s24_1, d24_0, d24_1, rfl, hso24, hb24⟩
        have hS := Sm.of_below hb24
        replace BX0 := Lib.hid (BX0.out.sm hS (by omega))
        replace RS := Lib.hid (RS.out.sm hS (by omega))
        replace CS := Lib.hid (CS.out.sm hS (by omega))
        replace CX0 := Lib.hid (CX0.out.sm hS (by omega))
        replace CG := Lib.hid (CG.out.sm hS (by omega))
        replace RM := Lib.hid (RM.out.sm hS (by omega))
        replace V0 := Lib.hid (V0.out.sm hS (by omega))
        replace V1 := Lib.hid (V1.out.sm hS (by omega))
        replace FB := Lib.hid (below_step FB.out FN hb24)
        have hzw24_ := hb24.size
        replace FN := Nat.le_trans FN hzw24_
        clear hS hb24
        have RH := Lib.hid hso24.within
        clear hso24
        clear V0
        clear V1
        have hS := Sm.alloc w24_ (.cells #[.int .i64 rr.f0.f0, .int .i64 rr.f0.f1, .int .i64 rr.f0.f2, .int .i64 rr.f0.f3, .slice s24_0 rr.f0.f4.length d24_0, .int .i64 rr.f1, .int .i64 rr.f2, .slice s24_1 rr.f3.length d24_1] 34)
        replace BX0 := Lib.hid (BX0.out.sm hS (by omega))
        replace RS := Lib.hid (RS.out.sm hS (by omega))
        replace CS := Lib.hid (CS.out.sm hS (by omega))
        replace CX0 := Lib.hid (CX0.out.sm hS (by omega))
        replace CG := Lib.hid (CG.out.sm hS (by omega))
        replace RM := Lib.hid (RM.out.sm hS (by omega))
        replace RH := Lib.hid (RH.out.sm hS (by omega))
        have CH := Lib.hid (BoxAt.new w24_ #[.int .i64 rr.f0.f0, .int .i64 rr.f0.f1, .int .i64 rr.f0.f2, .int .i64 rr.f0.f3, .slice s24_0 rr.f0.f4.length d24_0, .int .i64 rr.f1, .int .i64 rr.f2, .slice s24_1 rr.f3.length d24_1] 34 w24_.heap.size rfl)
        replace FB := Lib.hid (below_new FB.out FN (.cells #[.int .i64 rr.f0.f0, .int .i64 rr.f0.f1, .int .i64 rr.f0.f2, .int .i64 rr.f0.f3, .slice s24_0 rr.f0.f4.length d24_0, .int .i64 rr.f1, .int .i64 rr.f2, .slice s24_1 rr.f3.length d24_1] 34))
        have hq25 : (w24_.alloc (.cells #[.int .i64 rr.f0.f0, .int .i64 rr.f0.f1, .int .i64 rr.f0.f2, .int .i64 rr.f0.f3, .slice s24_0 rr.f0.f4.length d24_0, .int .i64 rr.f1, .int .i64 rr.f2, .slice s24_1 rr.f3.length d24_1] 34)).heap.size = w24_.heap.size + 1 := by simp
        replace FN : w.heap.size ≤ (w24_.alloc (.cells #[.int .i64 rr.f0.f0, .int .i64 rr.f0.f1, .int .i64 rr.f0.f2, .int .i64 rr.f0.f3, .slice s24_0 rr.f0.f4.length d24_0, .int .i64 rr.f1, .int .i64 rr.f2, .slice s24_1 rr.f3.length d24_1] 34)).heap.size := by omega
        clear hS
        have xCH0 := CH.out 0 _ rfl
        have xCH1 := CH.out 1 _ rfl
        have xCH2 := CH.out 2 _ rfl
        have xCH3 := CH.out 3 _ rfl
        have xCH4 := CH.out 4 _ rfl
        have xCH5 := CH.out 5 _ rfl
        have xCH6 := CH.out 6 _ rfl
        have xCH7 := CH.out 7 _ rfl
        have xCS0 := CS.out 0 _ rfl
        have xCS1 := CS.out 1 _ rfl
        have xCS2 := CS.out 2 _ rfl
        have xCS3 := CS.out 3 _ rfl
        have xCS4 := CS.out 4 _ rfl
        have xCS5 := CS.out 5 _ rfl
        have xCS6 := CS.out 6 _ rfl
        have xCS7 := CS.out 7 _ rfl
        go_wp2_with fail
        refine (EQ.out _ _ _ _ _ _ _ _ _ RH.out.sl RS.out.sl).mono ?_
        rintro e w26_ ⟨rfl, hb26⟩
        clear xCH0 xCH1 xCH2 xCH3 xCH4 xCH5 xCH6 xCH7
        clear xCS0 xCS1 xCS2 xCS3 xCS4 xCS5 xCS6 xCS7
        have hS := Sm.of_below hb26
        replace BX0 := Lib.hid (BX0.out.sm hS (by omega))
        replace RS := Lib.hid (RS.out.sm hS (by omega))
        replace CS := Lib.hid (CS.out.sm hS (by omega))
        replace CX0 := Lib.hid (CX0.out.sm hS (by omega))
        replace CG := Lib.hid (CG.out.sm hS (by omega))
        replace RM := Lib.hid (RM.out.sm hS (by omega))
        replace RH := Lib.hid (RH.out.sm hS (by omega))
        replace CH := Lib.hid (CH.out.sm hS (by omega))
        replace FB := Lib.hid (below_step FB.out FN hb26)
        have hzw26_ := hb26.size
        replace FN := Nat.le_trans FN hzw26_
        clear hS hb26
        have xCG0 := CG.out 0 _ rfl
        have xCG1 := CG.out 1 _ rfl
        have xCG2 := CG.out 2 _ rfl
        have xCG3 := CG.out 3 _ rfl
        have xCG4 := CG.out 4 _ rfl
        have xCG5 := CG.out 5 _ rfl
        have xCG6 := CG.out 6 _ rfl
        have xCG7 := CG.out 7 _ rfl
        go_wp2_with fail
        refine (HD.out _ _ _ _ _ RM.out.sl).mono ?_
        rintro e w27_ ⟨rfl, hb27⟩
        clear xCG0 xCG1 xCG2 xCG3 xCG4 xCG5 xCG6 xCG7
        have hS := Sm.of_below hb27
        replace BX0 := Lib.hid (BX0.out.sm hS (by omega))
        replace RS := Lib.hid (RS.out.sm hS (by omega))
        replace CS := Lib.hid (CS.out.sm hS (by omega))
        replace CX0 := Lib.hid (CX0.out.sm hS (by omega))
        replace CG := Lib.hid (CG.out.sm hS (by omega))
        replace RM := Lib.hid (RM.out.sm hS (by omega))
        replace RH := Lib.hid (RH.out.sm hS (by omega))
        replace CH := Lib.hid (CH.out.sm hS (by omega))
        replace FB := Lib.hid (below_step FB.out FN hb27)
        have hzw27_ := hb27.size
        replace FN := Nat.le_trans FN hzw27_
        clear hS hb27
        go_wp2
        go_ret
        exact ⟨rfl, FB.out⟩
end Go.Proofs.Ytjnabncfkogigaa.fnExactStoreBlocks
