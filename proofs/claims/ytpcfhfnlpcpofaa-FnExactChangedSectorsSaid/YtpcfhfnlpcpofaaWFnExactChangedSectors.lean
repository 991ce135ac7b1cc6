/- FnExactChangedSectors: the law's walk. -/
import Derived.Test.YtpcfhfnlpcpofaaSm
import Derived.Test.YtpcfhfnlpcpofaaRecSm
import Derived.Test.YtpcfhfnlpcpofaaOpenFlux
import Derived.Test.YtpcfhfnlpcpofaaBoxes
import Derived.Test.YtpcfhfnlpcpofaaChangedIm
import Derived.Test.YtpcfhfnlpcpofaaChangedSp
import Derived.Test.YtpcfhfnlpcpofaaOneDisc
import Derived.Test.YtpcfhfnlpcpofaaMarkOneDisc
namespace Go.Proofs.Ytpcfhfnlpcpofaa.fnExactChangedSectors
open Go.RowKit
set_option linter.unusedVariables false
set_option maxRecDepth 20000 in
set_option maxHeartbeats 8000000 in
theorem walk (x0 : DiscV) (s0 : Option Addr) (cap0 : Nat) (x1 : DiscV) (s1 : Option Addr) (cap1 : Nat) (w : World) (w0 : ArgDisc w s0 x0) (w1 : ArgDisc w s1 x1) :
    Calls Try.prog 10 #[.agg #[.int .i64 x0.f0, .int .i64 x0.f1, .int .i64 x0.f2, .int .i64 x0.f3, .slice s0 x0.f4.length cap0], .agg #[.int .i64 x1.f0, .int .i64 x1.f1, .int .i64 x1.f2, .int .i64 x1.f3, .slice s1 x1.f4.length cap1]] w fun e w' => e = .returned (.bool true) ∧ Below w.heap.size w w' := by
  obtain ⟨hm0, hsl0, v0⟩ := w0
  obtain ⟨hm1, hsl1, v1⟩ := w1
  by_cases hk0 : wtDisc x0 ≤ 1048576
  case neg =>
    have SN0 := Lib.hid (fun w' (hb : Below w.heap.size w w') => (szDisc_any x0 s0 cap0 1048576 w' (by omega) hm0 v0 (hsl0.below hb (Nat.le_refl _))).mono (fun e w'' ⟨he, hw⟩ => (show e = Ending.returned (.int .i64 (-1)) ∧ Below w'.heap.size w' w'' from ⟨by rw [he]; unfold szV; rw [if_neg hk0], hw⟩)))
    clear hsl0 hsl1
    go_enter Try.func10, Try.ntmps10
    have FB := Lib.hid (show Below w.heap.size w w from Below.refl _ _)
    have FN : w.heap.size ≤ w.heap.size := Nat.le_refl _
    have hS := Sm.alloc w (.cells #[.int .i64 x0.f0, .int .i64 x0.f1, .int .i64 x0.f2, .int .i64 x0.f3, .slice s0 x0.f4.length cap0] 24)
    have BX0 := Lib.hid (BoxAt.new w #[.int .i64 x0.f0, .int .i64 x0.f1, .int .i64 x0.f2, .int .i64 x0.f3, .slice s0 x0.f4.length cap0] 24 w.heap.size rfl)
    replace FB := Lib.hid (below_new FB.out FN (.cells #[.int .i64 x0.f0, .int .i64 x0.f1, .int .i64 x0.f2, .int .i64 x0.f3, .slice s0 x0.f4.length cap0] 24))
    have hq1 : (w.alloc (.cells #[.int .i64 x0.f0, .int .i64 x0.f1, .int .i64 x0.f2, .int .i64 x0.f3, .slice s0 x0.f4.length cap0] 24)).heap.size = w.heap.size + 1 := by simp
    replace FN : w.heap.size ≤ (w.alloc (.cells #[.int .i64 x0.f0, .int .i64 x0.f1, .int .i64 x0.f2, .int .i64 x0.f3, .slice s0 x0.f4.length cap0] 24)).heap.size := by omega
    clear hS
    have hS := Sm.alloc (w.alloc (.cells #[.int .i64 x0.f0, .int .i64 x0.f1, .int .i64 x0.f2, .int .i64 x0.f3, .slice s0 x0.f4.length cap0] 24)) (.cells #[.int .i64 x1.f0, .int .i64 x1.f1, .int .i64 x1.f2, .int .i64 x1.f3, .slice s1 x1.f4.length cap1] 24)
    replace BX0 := Lib.hid (BX0.out.sm hS (by omega))
    have BX1 := Lib.hid (BoxAt.new (w.alloc (.cells #[.int .i64 x0.f0, .int .i64 x0.f1, .int .i64 x0.f2, .int .i64 x0.f3, .slice s0 x0.f4.length cap0] 24)) #[.int .i64 x1.f0, .int .i64 x1.f1, .int .i64 x1.f2, .int .i64 x1.f3, .slice s1 x1.f4.length cap1] 24 (w.heap.size + 1) (by simp))
    replace FB := Lib.hid (below_new FB.out FN (.cells #[.int .i64 x1.f0, .int .i64 x1.f1, .int .i64 x1.f2, .int .i64 x1.f3, .slice s1 x1.f4.length cap1] 24))
    have hq2 : ((w.alloc (.cells #[.int .i64 x0.f0, .int .i64 x0.f1, .int .i64 x0.f2, .int .i64 x0.f3, .slice s0 x0.f4.length cap0] 24)).alloc (.cells #[.int .i64 x1.f0, .int .i64 x1.f1, .int .i64 x1.f2, .int .i64 x1.f3, .slice s1 x1.f4.length cap1] 24)).heap.size = (w.alloc (.cells #[.int .i64 x0.f0, .int .i64 x0.f1, .int .i64 x0.f2, .int .i64 x0.f3, .slice s0 x0.f4.length cap0] 24)).heap.size + 1 := by simp
    replace FN : w.heap.size ≤ ((w.alloc (.cells #[.int .i64 x0.f0, .int .i64 x0.f1, .int .i64 x0.f2, .int .i64 x0.f3, .slice s0 x0.f4.length cap0] 24)).alloc (.cells #[.int .i64 x1.f0, .int .i64 x1.f1, .int .i64 x1.f2, .int .i64 x1.f3, .slice s1 x1.f4.length cap1] 24)).heap.size := by omega
    clear hS
    have xBX00 := BX0.out 0 _ rfl
    have xBX01 := BX0.out 1 _ rfl
    have xBX02 := BX0.out 2 _ rfl
    have xBX03 := BX0.out 3 _ rfl
    have xBX04 := BX0.out 4 _ rfl
    go_wp2_with fail
    refine (SN0.out _ FB.out).mono ?_
    rintro e w3_ ⟨rfl, hb3⟩
    clear xBX00 xBX01 xBX02 xBX03 xBX04
    have hS := Sm.of_below hb3
    replace BX0 := Lib.hid (BX0.out.sm hS (by omega))
    replace BX1 := Lib.hid (BX1.out.sm hS (by omega))
    replace FB := Lib.hid (below_step FB.out FN hb3)
    have hzw3_ := hb3.size
    replace FN := Nat.le_trans FN hzw3_
    clear hS hb3
    go_wp2
    go_ret
    exact ⟨rfl, FB.out⟩
  case pos =>
    have sz0 := fun w' (hb : Below w.heap.size w w') => (szDisc_any x0 s0 cap0 1048576 w' (by omega) hm0 v0 (hsl0.below hb (Nat.le_refl _))).mono (fun e w'' ⟨he, hw⟩ => (show e = Ending.returned (.int .i64 ((1048576 - wtDisc x0 : Nat) : Int)) ∧ Below w'.heap.size w' w'' from ⟨by rw [he]; unfold szV; rw [if_pos hk0], hw⟩))
    obtain ⟨lf0, hlf0⟩ : ∃ m, 1048576 - wtDisc x0 = m := ⟨_, rfl⟩
    rw [hlf0] at sz0
    have hlfb0 : ¬ ((lf0 : Int) < 0) := by omega
    have hlfc0 : lf0 ≤ 1048576 := by omega
    have SZ0 := Lib.hid sz0; clear sz0
    by_cases hk1 : wtDisc x1 ≤ lf0
    case neg =>
      have SN1 := Lib.hid (fun w' (hb : Below w.heap.size w w') => (szDisc_any x1 s1 cap1 lf0 w' (by omega) hm1 v1 (hsl1.below hb (Nat.le_refl _))).mono (fun e w'' ⟨he, hw⟩ => (show e = Ending.returned (.int .i64 (-1)) ∧ Below w'.heap.size w' w'' from ⟨by rw [he]; unfold szV; rw [if_neg hk1], hw⟩)))
      clear hsl0 hsl1
      go_enter Try.func10, Try.ntmps10
      have FB := Lib.hid (show Below w.heap.size w w from Below.refl _ _)
      have FN : w.heap.size ≤ w.heap.size := Nat.le_refl _
      have hS := Sm.alloc w (.cells #[.int .i64 x0.f0, .int .i64 x0.f1, .int .i64 x0.f2, .int .i64 x0.f3, .slice s0 x0.f4.length cap0] 24)
      have BX0 := Lib.hid (BoxAt.new w #[.int .i64 x0.f0, .int .i64 x0.f1, .int .i64 x0.f2, .int .i64 x0.f3, .slice s0 x0.f4.length cap0] 24 w.heap.size rfl)
      replace FB := Lib.hid (below_new FB.out FN (.cells #[.int .i64 x0.f0, .int .i64 x0.f1, .int .i64 x0.f2, .int .i64 x0.f3, .slice s0 x0.f4.length cap0] 24))
      have hq1 : (w.alloc (.cells #[.int .i64 x0.f0, .int .i64 x0.f1, .int .i64 x0.f2, .int .i64 x0.f3, .slice s0 x0.f4.length cap0] 24)).heap.size = w.heap.size + 1 := by simp
      replace FN : w.heap.size ≤ (w.alloc (.cells #[.int .i64 x0.f0, .int .i64 x0.f1, .int .i64 x0.f2, .int .i64 x0.f3, .slice s0 x0.f4.length cap0] 24)).heap.size := by omega
      clear hS
      have hS := Sm.alloc (w.alloc (.cells #[.int .i64 x0.f0, .int .i64 x0.f1, .int .i64 x0.f2, .int .i64 x0.f3, .slice s0 x0.f4.length cap0] 24)) (.cells #[.int .i64 x1.f0, .int .i64 x1.f1, .int .i64 x1.f2, .int .i64 x1.f3, .slice s1 x1.f4.length cap1] 24)
      replace BX0 := Lib.hid (BX0.out.sm hS (by omega))
      have BX1 := Lib.hid (BoxAt.new (w.alloc (.cells #[.int .i64 x0.f0, .int .i64 x0.f1, .int .i64 x0.f2, .int .i64 x0.f3, .slice s0 x0.f4.length cap0] 24)) #[.int .i64 x1.f0, .int .i64 x1.f1, .int .i64 x1.f2, .int .i64 x1.f3, .slice s1 x1.f4.length cap1] 24 (w.heap.size + 1) (by simp))
      replace FB := Lib.hid (below_new FB.out FN (.cells #[.int .i64 x1.f0, .int .i64 x1.f1, .int .i64 x1.f2, .int .i64 x1.f3, .slice s1 x1.f4.length cap1] 24))
      have hq2 : ((w.alloc (.cells #[.int .i64 x0.f0, .int .i64 x0.f1, .int .i64 x0.f2, .int .i64 x0.f3, .slice s0 x0.f4.length cap0] 24)).alloc (.cells #[.int .i64 x1.f0, .int .i64 x1.f1, .int .i64 x1.f2, .int .i64 x1.f3, .slice s1 x1.f4.length cap1] 24)).heap.size = (w.alloc (.cells #[.int .i64 x0.f0, .int .i64 x0.f1, .int .i64 x0.f2, .int .i64 x0.f3, .slice s0 x0.f4.length cap0] 24)).heap.size + 1 := by simp
      replace FN : w.heap.size ≤ ((w.alloc (.cells #[.int .i64 x0.f0, .int .i64 x0.f1, .int .i64 x0.f2, .int .i64 x0.f3, .slice s0 x0.f4.length cap0] 24)).alloc (.cells #[.int .i64 x1.f0, .int .i64 x1.f1, .int .i64 x1.f2, .int .i64 x1.f3, .slice s1 x1.f4.length cap1] 24)).heap.size := by omega
      clear hS
      have xBX00 := BX0.out 0 _ rfl
      have xBX01 := BX0.out 1 _ rfl
      have xBX02 := BX0.out 2 _ rfl
      have xBX03 := BX0.out 3 _ rfl
      have xBX04 := BX0.out 4 _ rfl
      go_wp2_with fail
      refine (SZ0.out _ FB.out).mono ?_
      rintro e w3_ ⟨rfl, hb3⟩
      clear xBX00 xBX01 xBX02 xBX03 xBX04
      have hS := Sm.of_below hb3
      replace BX0 := Lib.hid (BX0.out.sm hS (by omega))
      replace BX1 := Lib.hid (BX1.out.sm hS (by omega))
      replace FB := Lib.hid (below_step FB.out FN hb3)
      have hzw3_ := hb3.size
      replace FN := Nat.le_trans FN hzw3_
      clear hS hb3
      have xBX10 := BX1.out 0 _ rfl
      have xBX11 := BX1.out 1 _ rfl
      have xBX12 := BX1.out 2 _ rfl
      have xBX13 := BX1.out 3 _ rfl
      have xBX14 := BX1.out 4 _ rfl
      go_wp2_with fail
      refine (SN1.out _ FB.out).mono ?_
      rintro e w4_ ⟨rfl, hb4⟩
      clear xBX10 xBX11 xBX12 xBX13 xBX14
      have hS := Sm.of_below hb4
      replace BX0 := Lib.hid (BX0.out.sm hS (by omega))
      replace BX1 := Lib.hid (BX1.out.sm hS (by omega))
      replace FB := Lib.hid (below_step FB.out FN hb4)
      have hzw4_ := hb4.size
      replace FN := Nat.le_trans FN hzw4_
      clear hS hb4
      go_wp2
      go_ret
      exact ⟨rfl, FB.out⟩
    case pos =>
      have sz1 := fun w' (hb : Below w.heap.size w w') => (szDisc_any x1 s1 cap1 lf0 w' (by omega) hm1 v1 (hsl1.below hb (Nat.le_refl _))).mono (fun e w'' ⟨he, hw⟩ => (show e = Ending.returned (.int .i64 ((lf0 - wtDisc x1 : Nat) : Int)) ∧ Below w'.heap.size w' w'' from ⟨by rw [he]; unfold szV; rw [if_pos hk1], hw⟩))
      obtain ⟨lf1, hlf1⟩ : ∃ m, lf0 - wtDisc x1 = m := ⟨_, rfl⟩
      rw [hlf1] at sz1
      have hlfb1 : ¬ ((lf1 : Int) < 0) := by omega
      have hlfc1 : lf1 ≤ 1048576 := by omega
      have SZ1 := Lib.hid sz1; clear sz1
      have hn0 : x0.f4.length ≤ 1048576 := by have := wtDisc_len x0; omega
      have hv0 : ∀ e ∈ x0.f4, e.f0.size ≤ 1048576 := fun e he => by have := wtSector_at (show wtSector x0.f4 ≤ _ from Nat.le_refl (wtDisc x0)) e he; omega
      have hn1 : x1.f4.length ≤ 1048576 := by have := wtDisc_len x1; omega
      have hv1 : ∀ e ∈ x1.f4, e.f0.size ≤ 1048576 := fun e he => by have := wtSector_at (show wtSector x1.f4 ≤ _ from Nat.le_refl (wtDisc x1)) e he; omega
      have TO0 := Lib.hid (fun w' (hb : Below w.heap.size w w') => toDisc_any x0 s0 cap0 w' hn0 (hsl0.below hb (Nat.le_refl _)))
      have EX0 := Lib.hid (fun x d y d' w' (h1 : SlS rowSector w' x x0.f4) (h2 : SlS rowSector w' y x0.f4) => eqDisc_any true x0 x d x0 y d' w' (by simp) (by omega) (by omega) h1 h2)
      have TO1 := Lib.hid (fun w' (hb : Below w.heap.size w w') => toDisc_any x1 s1 cap1 w' hn1 (hsl1.below hb (Nat.le_refl _)))
      have EX1 := Lib.hid (fun x d y d' w' (h1 : SlS rowSector w' x x1.f4) (h2 : SlS rowSector w' y x1.f4) => eqDisc_any true x1 x d x1 y d' w' (by simp) (by omega) (by omega) h1 h2)
      have hsp := fun g0 g1 w' (h0 : SlS rowSector w' (some ⟨g0, 0, none⟩) x0.f4) (h1 : SlS rowSector w' (some ⟨g1, 0, none⟩) x1.f4) => specChangedSectors_g x0 (some ⟨g0, 0, none⟩) x0.f4.length x1 (some ⟨g1, 0, none⟩) x1.f4.length hn0 hv0 hn1 hv1 w' h0 h1
      have him := fun g0 g1 w' (h0 : SlS rowSector w' (some ⟨g0, 0, none⟩) x0.f4) (h1 : SlS rowSector w' (some ⟨g1, 0, none⟩) x1.f4) => changedSectors_g x0 (some ⟨g0, 0, none⟩) x0.f4.length x1 (some ⟨g1, 0, none⟩) x1.f4.length hn0 hv0 hn1 hv1 w' h0 h1
      have hR := chgV_len x0 x1
      generalize chgV x0 x1 = rs at hsp him hR
      have heq := fun x d y d' w' (h1 : SlA w' x rs) (h2 : SlA w' y rs) => eqInt64S_any x y rs rs d d' w' (by omega) (by omega) h1 h2
      have heq1 : (rs == rs) = true := by simp
      rw [heq1] at heq
      have hmk := fun x d B C w' hC h => markInt_sm x rs d 1 B C w' (by omega) (by omega) hC h
      have hhd : ∀ x d w', SlA w' x (fromK ((1 : Nat) : Int) rs.length) → Calls Try.prog 39 #[.slice x rs.length d, .int .i64 ((1 : Nat) : Int)] w' (fun e w'' => e = .returned (.int .i64 ((1 + rs.length : Nat) : Int)) ∧ Below w'.heap.size w' w'') := fun x d w' h => (heldInt_any x rs.length d 1 w' (by omega) (by omega) h).mono (fun e w'' ⟨he, hw⟩ => ⟨he, by rw [← hw]; exact Below.refl _ _⟩)
      unfold Marked at hmk
      have hk1 : 1 + rs.length ≤ 1048577 := by omega
      obtain ⟨kr, hkr⟩ : ∃ m, 1 + rs.length = m := ⟨_, rfl⟩
      rw [hkr] at hmk hhd hk1
      have hkk : ((kr : Int) != (kr : Int)) = false := by simp
      have hkr0 : ¬ ((kr : Int) < 0) := by omega
      have hmx0 := fun g B C w' hC h => markDisc_sm x0 (some ⟨g, 0, none⟩) x0.f4.length 1 B C w' (by omega) (by omega) (by omega) hC h
      unfold MarkedS at hmx0
      have hxb0 : 1 + 2 * x0.f4.length ≤ 134217728 := by omega
      have hxp0 : 0 < 1 + 2 * x0.f4.length := by omega
      obtain ⟨kx0, hkx0⟩ : ∃ m, 1 + 2 * x0.f4.length = m := ⟨_, rfl⟩
      rw [hkx0] at hmx0 hxb0 hxp0
      have hkxz0 : ¬ ((kx0 : Int) < 0) := by omega
      have MX0 := Lib.hid hmx0; clear hmx0
      have hmx1 := fun g B C w' hC h => markDisc_sm x1 (some ⟨g, 0, none⟩) x1.f4.length kx0 B C w' (by omega) (by omega) (by omega) hC h
      unfold MarkedS at hmx1
      have hxb1 : kx0 + 2 * x1.f4.length ≤ 134217728 := by omega
      have hxp1 : 0 < kx0 + 2 * x1.f4.length := by omega
      obtain ⟨kx1, hkx1⟩ : ∃ m, kx0 + 2 * x1.f4.length = m := ⟨_, rfl⟩
      rw [hkx1] at hmx1 hxb1 hxp1
      have hkxz1 : ¬ ((kx1 : Int) < 0) := by omega
      have MX1 := Lib.hid hmx1; clear hmx1
      have EQ := Lib.hid heq; have MK := Lib.hid hmk; have HD := Lib.hid hhd; clear heq hmk hhd
      generalize chgC x0 x1 = r1 at hsp him
      have hvq1 : (r1 != r1) = false := by simp
      have SP := Lib.hid hsp; have IM := Lib.hid him; clear hsp him hsl0 hsl1
      go_enter Try.func10, Try.ntmps10
      have FB := Lib.hid (show Below w.heap.size w w from Below.refl _ _)
      have FN : w.heap.size ≤ w.heap.size := Nat.le_refl _
      have hS := Sm.alloc w (.cells #[.int .i64 x0.f0, .int .i64 x0.f1, .int .i64 x0.f2, .int .i64 x0.f3, .slice s0 x0.f4.length cap0] 24)
      have BX0 := Lib.hid (BoxAt.new w #[.int .i64 x0.f0, .int .i64 x0.f1, .int .i64 x0.f2, .int .i64 x0.f3, .slice s0 x0.f4.length cap0] 24 w.heap.size rfl)
      replace FB := Lib.hid (below_new FB.out FN (.cells #[.int .i64 x0.f0, .int .i64 x0.f1, .int .i64 x0.f2, .int .i64 x0.f3, .slice s0 x0.f4.length cap0] 24))
      have hq1 : (w.alloc (.cells #[.int .i64 x0.f0, .int .i64 x0.f1, .int .i64 x0.f2, .int .i64 x0.f3, .slice s0 x0.f4.length cap0] 24)).heap.size = w.heap.size + 1 := by simp
      replace FN : w.heap.size ≤ (w.alloc (.cells #[.int .i64 x0.f0, .int .i64 x0.f1, .int .i64 x0.f2, .int .i64 x0.f3, .slice s0 x0.f4.length cap0] 24)).heap.size := by omega
      clear hS
      have hS := Sm.alloc (w.alloc (.cells #[.int .i64 x0.f0, .int .i64 x0.f1, .int .i64 x0.f2, .int .i64 x0.f3, .slice s0 x0.f4.length cap0] 24)) (.cells #[.int .i64 x1.f0, .int .i64 x1.f1, .int .i64 x1.f2, .int .i64 x1.f3, .slice s1 x1.f4.length cap1] 24)
      replace BX0 := Lib.hid (BX0.out.sm hS (by omega))
      have BX1 := Lib.hid (BoxAt.new (w.alloc (.cells #[.int .i64 x0.f0, .int .i64 x0.f1, .int .i64 x0.f2, .int .i64 x0.f3, .slice s0 x0.f4.length cap0] 24)) #[.int .i64 x1.f0, .int .i64 x1.f1, .int .i64 x1.f2, .int .i64 x1.f3, .slice s1 x1.f4.length cap1] 24 (w.heap.size + 1) (by simp))
      replace FB := Lib.hid (below_new FB.out FN (.cells #[.int .i64 x1.f0, .int .i64 x1.f1, .int .i64 x1.f2, .int .i64 x1.f3, .slice s1 x1.f4.length cap1] 24))
      have hq2 : ((w.alloc (.cells #[.int .i64 x0.f0, .int .i64 x0.f1, .int .i64 x0.f2, .int .i64 x0.f3, .slice s0 x0.f4.length cap0] 24)).alloc (.cells #[.int .i64 x1.f0, .int .i64 x1.f1, .int .i64 x1.f2, .int .i64 x1.f3, .slice s1 x1.f4.length cap1] 24)).heap.size = (w.alloc (.cells #[.int .i64 x0.f0, .int .i64 x0.f1, .int .i64 x0.f2, .int .i64 x0.f3, .slice s0 x0.f4.length cap0] 24)).heap.size + 1 := by simp
      replace FN : w.heap.size ≤ ((w.alloc (.cells #[.int .i64 x0.f0, .int .i64 x0.f1, .int .i64 x0.f2, .int .i64 x0.f3, .slice s0 x0.f4.length cap0] 24)).alloc (.cells #[.int .i64 x1.f0, .int .i64 x1.f1, .int .i64 x1.f2, .int .i64 x1.f3, .slice s1 x1.f4.length cap1] 24)).heap.size := by omega
      clear hS
      have xBX00 := BX0.out 0 _ rfl
      have xBX01 := BX0.out 1 _ rfl
      have xBX02 := BX0.out 2 _ rfl
      have xBX03 := BX0.out 3 _ rfl
      have xBX04 := BX0.out 4 _ rfl
      go_wp2_with fail
      refine (SZ0.out _ FB.out).mono ?_
      rintro e w3_ ⟨rfl, hb3⟩
      clear xBX00 xBX01 xBX02 xBX03 xBX04
      have hS := Sm.of_below hb3
      replace BX0 := Lib.hid (BX0.out.sm hS (by omega))
      replace BX1 := Lib.hid (BX1.out.sm hS (by omega))
      replace FB := Lib.hid (below_step FB.out FN hb3)
      have hzw3_ := hb3.size
      replace FN := Nat.le_trans FN hzw3_
      clear hS hb3
      have xBX10 := BX1.out 0 _ rfl
      have xBX11 := BX1.out 1 _ rfl
      have xBX12 := BX1.out 2 _ rfl
      have xBX13 := BX1.out 3 _ rfl
      have xBX14 := BX1.out 4 _ rfl
      go_wp2_with fail
      refine (SZ1.out _ FB.out).mono ?_
      rintro e w4_ ⟨rfl, hb4⟩
      clear xBX10 xBX11 xBX12 xBX13 xBX14
      have hS := Sm.of_below hb4
      replace BX0 := Lib.hid (BX0.out.sm hS (by omega))
      replace BX1 := Lib.hid (BX1.out.sm hS (by omega))
      replace FB := Lib.hid (below_step FB.out FN hb4)
      have hzw4_ := hb4.size
      replace FN := Nat.le_trans FN hzw4_
      clear hS hb4
      have hlBX0 := BX0.out.lt (by simp)
      have hlBX1 := BX1.out.lt (by simp)
      have xBX00 := BX0.out 0 _ rfl
      have xBX01 := BX0.out 1 _ rfl
      have xBX02 := BX0.out 2 _ rfl
      have xBX03 := BX0.out 3 _ rfl
      have xBX04 := BX0.out 4 _ rfl
      have xBX10 := BX1.out 0 _ rfl
      have xBX11 := BX1.out 1 _ rfl
      have xBX12 := BX1.out 2 _ rfl
      have xBX13 := BX1.out 3 _ rfl
      have xBX14 := BX1.out 4 _ rfl
      have KS := Lib.hid (fun w' (hb : Below w4_.heap.size w4_ w') => (show (w'.cell? ⟨w.heap.size, 0, none⟩ = some (.int .i64 x0.f0) ∧ w'.cell? ⟨w.heap.size, 1, none⟩ = some (.int .i64 x0.f1) ∧ w'.cell? ⟨w.heap.size, 2, none⟩ = some (.int .i64 x0.f2) ∧ w'.cell? ⟨w.heap.size, 3, none⟩ = some (.int .i64 x0.f3) ∧ w'.cell? ⟨w.heap.size, 4, none⟩ = some (.slice s0 x0.f4.length cap0)) ∧ (w'.cell? ⟨(w.heap.size + 1), 0, none⟩ = some (.int .i64 x1.f0) ∧ w'.cell? ⟨(w.heap.size + 1), 1, none⟩ = some (.int .i64 x1.f1) ∧ w'.cell? ⟨(w.heap.size + 1), 2, none⟩ = some (.int .i64 x1.f2) ∧ w'.cell? ⟨(w.heap.size + 1), 3, none⟩ = some (.int .i64 x1.f3) ∧ w'.cell? ⟨(w.heap.size + 1), 4, none⟩ = some (.slice s1 x1.f4.length cap1)) from ⟨⟨(BX0.out.below hb hlBX0) 0 _ rfl, (BX0.out.below hb hlBX0) 1 _ rfl, (BX0.out.below hb hlBX0) 2 _ rfl, (BX0.out.below hb hlBX0) 3 _ rfl, (BX0.out.below hb hlBX0) 4 _ rfl⟩, ⟨(BX1.out.below hb hlBX1) 0 _ rfl, (BX1.out.below hb hlBX1) 1 _ rfl, (BX1.out.below hb hlBX1) 2 _ rfl, (BX1.out.below hb hlBX1) 3 _ rfl, (BX1.out.below hb hlBX1) 4 _ rfl⟩⟩))
      have hks : (w4_.cell? ⟨w.heap.size, 0, none⟩ = some (.int .i64 x0.f0) ∧ w4_.cell? ⟨w.heap.size, 1, none⟩ = some (.int .i64 x0.f1) ∧ w4_.cell? ⟨w.heap.size, 2, none⟩ = some (.int .i64 x0.f2) ∧ w4_.cell? ⟨w.heap.size, 3, none⟩ = some (.int .i64 x0.f3) ∧ w4_.cell? ⟨w.heap.size, 4, none⟩ = some (.slice s0 x0.f4.length cap0)) ∧ (w4_.cell? ⟨(w.heap.size + 1), 0, none⟩ = some (.int .i64 x1.f0) ∧ w4_.cell? ⟨(w.heap.size + 1), 1, none⟩ = some (.int .i64 x1.f1) ∧ w4_.cell? ⟨(w.heap.size + 1), 2, none⟩ = some (.int .i64 x1.f2) ∧ w4_.cell? ⟨(w.heap.size + 1), 3, none⟩ = some (.int .i64 x1.f3) ∧ w4_.cell? ⟨(w.heap.size + 1), 4, none⟩ = some (.slice s1 x1.f4.length cap1)) := KS.out _ (Below.refl _ _)
      have FBX := Lib.hid (fun w' (hb : Below w4_.heap.size w4_ w') => (show Below w.heap.size w w' from FB.out.trans (hb.mono FN)))
      have HC := Lib.hid (show Below w4_.heap.size w4_ w4_.drew from (Below.refl _ _).drew)
      go_wp2
      go_region_held3 (fun w' => (w'.cell? ⟨w.heap.size, 0, none⟩ = some (.int .i64 x0.f0) ∧ w'.cell? ⟨w.heap.size, 1, none⟩ = some (.int .i64 x0.f1) ∧ w'.cell? ⟨w.heap.size, 2, none⟩ = some (.int .i64 x0.f2) ∧ w'.cell? ⟨w.heap.size, 3, none⟩ = some (.int .i64 x0.f3) ∧ w'.cell? ⟨w.heap.size, 4, none⟩ = some (.slice s0 x0.f4.length cap0)) ∧ (w'.cell? ⟨(w.heap.size + 1), 0, none⟩ = some (.int .i64 x1.f0) ∧ w'.cell? ⟨(w.heap.size + 1), 1, none⟩ = some (.int .i64 x1.f1) ∧ w'.cell? ⟨(w.heap.size + 1), 2, none⟩ = some (.int .i64 x1.f2) ∧ w'.cell? ⟨(w.heap.size + 1), 3, none⟩ = some (.int .i64 x1.f3) ∧ w'.cell? ⟨(w.heap.size + 1), 4, none⟩ = some (.slice s1 x1.f4.length cap1)))
        (first | (with_reducible exact KS.out _ HC.out) | (with_reducible exact KS.out _ (HC.out.alloc HC.out.size _)) | go_keep)
        (first
          | (go_at_call 17; first | ((with_reducible refine (TO0.out _ (FBX.out _ HC.out)).mono ?_); rintro e wt0 ⟨gt0, rfl, hrowt0, hgt0, hbt0⟩; (try (replace R0 := Lib.hid (R0.out.sm (Sm.of_below hbt0) (by omega)))); (try (replace R1 := Lib.hid (R1.out.sm (Sm.of_below hbt0) (by omega)))); replace HC := Lib.hid (HC.out.trans (hbt0.mono HC.out.size)); have R0 := Lib.hid (hrowt0.sli hgt0)) | ((with_reducible refine (TO1.out _ (FBX.out _ HC.out)).mono ?_); rintro e wt1 ⟨gt1, rfl, hrowt1, hgt1, hbt1⟩; (try (replace R0 := Lib.hid (R0.out.sm (Sm.of_below hbt1) (by omega)))); (try (replace R1 := Lib.hid (R1.out.sm (Sm.of_below hbt1) (by omega)))); replace HC := Lib.hid (HC.out.trans (hbt1.mono HC.out.size)); have R1 := Lib.hid (hrowt1.sli hgt1)))
          | (go_at_call 40; ((with_reducible refine (SP.out _ _ _ R0.out.sl R1.out.sl).mono ?_); rintro e w5_ ⟨s5, d5, rfl, hso5, hb5⟩; have hbf5 := HC.out.size; (try (replace R0 := Lib.hid (R0.out.sm (Sm.of_below hb5) (by omega)))); (try (replace R1 := Lib.hid (R1.out.sm (Sm.of_below hb5) (by omega)))); replace HC := Lib.hid (HC.out.trans (hb5.mono HC.out.size)); skip))
          | fail)
      all_goals
        replace BX0 := Lib.hid (BX0.out.below HC.out hlBX0)
        replace BX1 := Lib.hid (BX1.out.below HC.out hlBX1)
        replace FB := Lib.hid (FBX.out _ HC.out)
        have hzz5 := HC.out.size
        replace FN := Nat.le_trans FN hzz5
        clear hks KS HC FBX hlBX0 hlBX1
        clear xBX00 xBX01 xBX02 xBX03 xBX04
        clear xBX10 xBX11 xBX12 xBX13 xBX14
        clear hrowt0 hgt0
        clear hbt0
        clear hrowt1 hgt1
        clear hbt1
        have RS := Lib.hid (hso5.within.mono hbf5 (Nat.le_refl _))
        clear hso5 hbf5
        clear R0
        clear R1
        have xBX00 := BX0.out 0 _ rfl
        have xBX01 := BX0.out 1 _ rfl
        have xBX02 := BX0.out 2 _ rfl
        have xBX03 := BX0.out 3 _ rfl
        have xBX04 := BX0.out 4 _ rfl
        go_wp2_with fail
        refine (TO0.out _ FB.out).mono ?_
        rintro e w6_ ⟨g6, rfl, hrow6, hg6, hb6⟩
        clear xBX00 xBX01 xBX02 xBX03 xBX04
        have hS := Sm.of_below hb6
        replace BX0 := Lib.hid (BX0.out.sm hS (by omega))
        replace BX1 := Lib.hid (BX1.out.sm hS (by omega))
        replace RS := Lib.hid (RS.out.sm hS (by omega))
        replace FB := Lib.hid (below_step FB.out FN hb6)
        have hzw6_ := hb6.size
        replace FN := Nat.le_trans FN hzw6_
        clear hS hb6
        have X0 := Lib.hid (hrow6.sli hg6)
        clear hrow6 hg6
        have hS := Sm.alloc w6_ (.cells #[.int .i64 x0.f0, .int .i64 x0.f1, .int .i64 x0.f2, .int .i64 x0.f3, .slice (some ⟨g6, 0, none⟩) x0.f4.length x0.f4.length] 29)
        replace BX0 := Lib.hid (BX0.out.sm hS (by omega))
        replace BX1 := Lib.hid (BX1.out.sm hS (by omega))
        replace RS := Lib.hid (RS.out.sm hS (by omega))
        replace X0 := Lib.hid (X0.out.sm hS (by omega))
        have CX0 := Lib.hid (BoxAt.new w6_ #[.int .i64 x0.f0, .int .i64 x0.f1, .int .i64 x0.f2, .int .i64 x0.f3, .slice (some ⟨g6, 0, none⟩) x0.f4.length x0.f4.length] 29 w6_.heap.size rfl)
        replace FB := Lib.hid (below_new FB.out FN (.cells #[.int .i64 x0.f0, .int .i64 x0.f1, .int .i64 x0.f2, .int .i64 x0.f3, .slice (some ⟨g6, 0, none⟩) x0.f4.length x0.f4.length] 29))
        have hq7 : (w6_.alloc (.cells #[.int .i64 x0.f0, .int .i64 x0.f1, .int .i64 x0.f2, .int .i64 x0.f3, .slice (some ⟨g6, 0, none⟩) x0.f4.length x0.f4.length] 29)).heap.size = w6_.heap.size + 1 := by simp
        replace FN : w.heap.size ≤ (w6_.alloc (.cells #[.int .i64 x0.f0, .int .i64 x0.f1, .int .i64 x0.f2, .int .i64 x0.f3, .slice (some ⟨g6, 0, none⟩) x0.f4.length x0.f4.length] 29)).heap.size := by omega
        clear hS
        have xBX10 := BX1.out 0 _ rfl
        have xBX11 := BX1.out 1 _ rfl
        have xBX12 := BX1.out 2 _ rfl
        have xBX13 := BX1.out 3 _ rfl
        have xBX14 := BX1.out 4 _ rfl
        go_wp2_with fail
        refine (TO1.out _ FB.out).mono ?_
        rintro e w8_ ⟨g8, rfl, hrow8, hg8, hb8⟩
        clear xBX10 xBX11 xBX12 xBX13 xBX14
        have hS := Sm.of_below hb8
        replace BX0 := Lib.hid (BX0.out.sm hS (by omega))
        replace BX1 := Lib.hid (BX1.out.sm hS (by omega))
        replace RS := Lib.hid (RS.out.sm hS (by omega))
        replace X0 := Lib.hid (X0.out.sm hS (by omega))
        replace CX0 := Lib.hid (CX0.out.sm hS (by omega))
        replace FB := Lib.hid (below_step FB.out FN hb8)
        have hzw8_ := hb8.size
        replace FN := Nat.le_trans FN hzw8_
        clear hS hb8
        have X1 := Lib.hid (hrow8.sli hg8)
        clear hrow8 hg8
        have hS := Sm.alloc w8_ (.cells #[.int .i64 x1.f0, .int .i64 x1.f1, .int .i64 x1.f2, .int .i64 x1.f3, .slice (some ⟨g8, 0, none⟩) x1.f4.length x1.f4.length] 29)
        replace BX0 := Lib.hid (BX0.out.sm hS (by omega))
        replace BX1 := Lib.hid (BX1.out.sm hS (by omega))
        replace RS := Lib.hid (RS.out.sm hS (by omega))
        replace X0 := Lib.hid (X0.out.sm hS (by omega))
        replace CX0 := Lib.hid (CX0.out.sm hS (by omega))
        replace X1 := Lib.hid (X1.out.sm hS (by omega))
        have CX1 := Lib.hid (BoxAt.new w8_ #[.int .i64 x1.f0, .int .i64 x1.f1, .int .i64 x1.f2, .int .i64 x1.f3, .slice (some ⟨g8, 0, none⟩) x1.f4.length x1.f4.length] 29 w8_.heap.size rfl)
        replace FB := Lib.hid (below_new FB.out FN (.cells #[.int .i64 x1.f0, .int .i64 x1.f1, .int .i64 x1.f2, .int .i64 x1.f3, .slice (some ⟨g8, 0, none⟩) x1.f4.length x1.f4.length] 29))
        have hq9 : (w8_.alloc (.cells #[.int .i64 x1.f0, .int .i64 x1.f1, .int .i64 x1.f2, .int .i64 x1.f3, .slice (some ⟨g8, 0, none⟩) x1.f4.length x1.f4.length] 29)).heap.size = w8_.heap.size + 1 := by simp
        replace FN : w.heap.size ≤ (w8_.alloc (.cells #[.int .i64 x1.f0, .int .i64 x1.f1, .int .i64 x1.f2, .int .i64 x1.f3, .slice (some ⟨g8, 0, none⟩) x1.f4.length x1.f4.length] 29)).heap.size := by omega
        clear hS
        have xCX00 := CX0.out 0 _ rfl
        have xCX01 := CX0.out 1 _ rfl
        have xCX02 := CX0.out 2 _ rfl
        have xCX03 := CX0.out 3 _ rfl
        have xCX04 := CX0.out 4 _ rfl
        have xCX10 := CX1.out 0 _ rfl
        have xCX11 := CX1.out 1 _ rfl
        have xCX12 := CX1.out 2 _ rfl
        have xCX13 := CX1.out 3 _ rfl
        have xCX14 := CX1.out 4 _ rfl
        go_wp2_with fail
        refine (IM.out _ _ _ X0.out.sl X1.out.sl).mono ?_
        rintro e w10_ ⟨s10, d10, rfl, hso10, hb10⟩
        clear xCX00 xCX01 xCX02 xCX03 xCX04
        clear xCX10 xCX11 xCX12 xCX13 xCX14
        have hS := Sm.of_below hb10
        replace BX0 := Lib.hid (BX0.out.sm hS (by omega))
        replace BX1 := Lib.hid (BX1.out.sm hS (by omega))
        replace RS := Lib.hid (RS.out.sm hS (by omega))
        replace X0 := Lib.hid (X0.out.sm hS (by omega))
        replace CX0 := Lib.hid (CX0.out.sm hS (by omega))
        replace X1 := Lib.hid (X1.out.sm hS (by omega))
        replace CX1 := Lib.hid (CX1.out.sm hS (by omega))
        replace FB := Lib.hid (below_step FB.out FN hb10)
        have hzw10_ := hb10.size
        replace FN := Nat.le_trans FN hzw10_
        clear hS hb10
        have RG := Lib.hid hso10.within
        clear hso10
        go_wp2_with fail
        refine (EQ.out _ _ _ _ _ RG.out.sl RS.out.sl).mono ?_
        rintro e w11_ ⟨rfl, hb11⟩
        have hS := Sm.of_below hb11
        replace BX0 := Lib.hid (BX0.out.sm hS (by omega))
        replace BX1 := Lib.hid (BX1.out.sm hS (by omega))
        replace RS := Lib.hid (RS.out.sm hS (by omega))
        replace X0 := Lib.hid (X0.out.sm hS (by omega))
        replace CX0 := Lib.hid (CX0.out.sm hS (by omega))
        replace X1 := Lib.hid (X1.out.sm hS (by omega))
        replace CX1 := Lib.hid (CX1.out.sm hS (by omega))
        replace RG := Lib.hid (RG.out.sm hS (by omega))
        replace FB := Lib.hid (below_step FB.out FN hb11)
        have hzw11_ := hb11.size
        replace FN := Nat.le_trans FN hzw11_
        clear hS hb11
        have hlCX0 := CX0.out.lt (by simp)
        have hlBX0 := BX0.out.lt (by simp)
        have xCX00 := CX0.out 0 _ rfl
        have xCX01 := CX0.out 1 _ rfl
        have xCX02 := CX0.out 2 _ rfl
        have xCX03 := CX0.out 3 _ rfl
        have xCX04 := CX0.out 4 _ rfl
        have xBX00 := BX0.out 0 _ rfl
        have xBX01 := BX0.out 1 _ rfl
        have xBX02 := BX0.out 2 _ rfl
        have xBX03 := BX0.out 3 _ rfl
        have xBX04 := BX0.out 4 _ rfl
        have KS := Lib.hid (fun w' (hb : Below w11_.heap.size w11_ w') => (show (w'.cell? ⟨w6_.heap.size, 0, none⟩ = some (.int .i64 x0.f0) ∧ w'.cell? ⟨w6_.heap.size, 1, none⟩ = some (.int .i64 x0.f1) ∧ w'.cell? ⟨w6_.heap.size, 2, none⟩ = some (.int .i64 x0.f2) ∧ w'.cell? ⟨w6_.heap.size, 3, none⟩ = some (.int .i64 x0.f3) ∧ w'.cell? ⟨w6_.heap.size, 4, none⟩ = some (.slice (some ⟨g6, 0, none⟩) x0.f4.length x0.f4.length)) ∧ (w'.cell? ⟨w.heap.size, 0, none⟩ = some (.int .i64 x0.f0) ∧ w'.cell? ⟨w.heap.size, 1, none⟩ = some (.int .i64 x0.f1) ∧ w'.cell? ⟨w.heap.size, 2, none⟩ = some (.int .i64 x0.f2) ∧ w'.cell? ⟨w.heap.size, 3, none⟩ = some (.int .i64 x0.f3) ∧ w'.cell? ⟨w.heap.size, 4, none⟩ = some (.slice s0 x0.f4.length cap0)) from ⟨⟨(CX0.out.below hb hlCX0) 0 _ rfl, (CX0.out.below hb hlCX0) 1 _ rfl, (CX0.out.below hb hlCX0) 2 _ rfl, (CX0.out.below hb hlCX0) 3 _ rfl, (CX0.out.below hb hlCX0) 4 _ rfl⟩, ⟨(BX0.out.below hb hlBX0) 0 _ rfl, (BX0.out.below hb hlBX0) 1 _ rfl, (BX0.out.below hb hlBX0) 2 _ rfl, (BX0.out.below hb hlBX0) 3 _ rfl, (BX0.out.below hb hlBX0) 4 _ rfl⟩⟩))
        have hks : (w11_.cell? ⟨w6_.heap.size, 0, none⟩ = some (.int .i64 x0.f0) ∧ w11_.cell? ⟨w6_.heap.size, 1, none⟩ = some (.int .i64 x0.f1) ∧ w11_.cell? ⟨w6_.heap.size, 2, none⟩ = some (.int .i64 x0.f2) ∧ w11_.cell? ⟨w6_.heap.size, 3, none⟩ = some (.int .i64 x0.f3) ∧ w11_.cell? ⟨w6_.heap.size, 4, none⟩ = some (.slice (some ⟨g6, 0, none⟩) x0.f4.length x0.f4.length)) ∧ (w11_.cell? ⟨w.heap.size, 0, none⟩ = some (.int .i64 x0.f0) ∧ w11_.cell? ⟨w.heap.size, 1, none⟩ = some (.int .i64 x0.f1) ∧ w11_.cell? ⟨w.heap.size, 2, none⟩ = some (.int .i64 x0.f2) ∧ w11_.cell? ⟨w.heap.size, 3, none⟩ = some (.int .i64 x0.f3) ∧ w11_.cell? ⟨w.heap.size, 4, none⟩ = some (.slice s0 x0.f4.length cap0)) := KS.out _ (Below.refl _ _)
        have FBX := Lib.hid (fun w' (hb : Below w11_.heap.size w11_ w') => (show Below w.heap.size w w' from FB.out.trans (hb.mono FN)))
        have HC := Lib.hid (show Below w11_.heap.size w11_ w11_.drew from (Below.refl _ _).drew)
        replace RS := Lib.hid RS.out.drew
        replace X0 := Lib.hid X0.out.drew
        replace X1 := Lib.hid X1.out.drew
        replace RG := Lib.hid RG.out.drew
        go_wp2
        go_region_held3 (fun w' => (w'.cell? ⟨w6_.heap.size, 0, none⟩ = some (.int .i64 x0.f0) ∧ w'.cell? ⟨w6_.heap.size, 1, none⟩ = some (.int .i64 x0.f1) ∧ w'.cell? ⟨w6_.heap.size, 2, none⟩ = some (.int .i64 x0.f2) ∧ w'.cell? ⟨w6_.heap.size, 3, none⟩ = some (.int .i64 x0.f3) ∧ w'.cell? ⟨w6_.heap.size, 4, none⟩ = some (.slice (some ⟨g6, 0, none⟩) x0.f4.length x0.f4.length)) ∧ (w'.cell? ⟨w.heap.size, 0, none⟩ = some (.int .i64 x0.f0) ∧ w'.cell? ⟨w.heap.size, 1, none⟩ = some (.int .i64 x0.f1) ∧ w'.cell? ⟨w.heap.size, 2, none⟩ = some (.int .i64 x0.f2) ∧ w'.cell? ⟨w.heap.size, 3, none⟩ = some (.int .i64 x0.f3) ∧ w'.cell? ⟨w.heap.size, 4, none⟩ = some (.slice s0 x0.f4.length cap0)))
          (first | (with_reducible exact KS.out _ HC.out) | (with_reducible exact KS.out _ (HC.out.alloc HC.out.size _)) | go_keep)
          (first
            | (go_at_call 17; ((with_reducible refine (TO0.out _ (FBX.out _ HC.out)).mono ?_); rintro e wt0 ⟨gt0, rfl, hrowt0, hgt0, hbt0⟩; (try (replace RS := Lib.hid (RS.out.sm (Sm.of_below hbt0) (by omega)))); (try (replace X0 := Lib.hid (X0.out.sm (Sm.of_below hbt0) (by omega)))); (try (replace X1 := Lib.hid (X1.out.sm (Sm.of_below hbt0) (by omega)))); (try (replace RG := Lib.hid (RG.out.sm (Sm.of_below hbt0) (by omega)))); (try (replace Y0 := Lib.hid (Y0.out.sm (Sm.of_below hbt0) (by omega)))); replace HC := Lib.hid (HC.out.trans (hbt0.mono HC.out.size)); have Y0 := Lib.hid (hrowt0.sli hgt0)))
            | (go_at_call 19; ((with_reducible refine (EX0.out _ _ _ _ _ X0.out.sl Y0.out.sl).mono ?_); rintro e w12_ ⟨rfl, hb12⟩; have hbf12 := HC.out.size; (try (replace RS := Lib.hid (RS.out.sm (Sm.of_below hb12) (by omega)))); (try (replace X0 := Lib.hid (X0.out.sm (Sm.of_below hb12) (by omega)))); (try (replace X1 := Lib.hid (X1.out.sm (Sm.of_below hb12) (by omega)))); (try (replace RG := Lib.hid (RG.out.sm (Sm.of_below hb12) (by omega)))); (try (replace Y0 := Lib.hid (Y0.out.sm (Sm.of_below hb12) (by omega)))); replace HC := Lib.hid (HC.out.trans (hb12.mono HC.out.size)); skip))
            | fail)
        all_goals
          replace CX0 := Lib.hid (CX0.out.below HC.out hlCX0)
          replace BX0 := Lib.hid (BX0.out.below HC.out hlBX0)
          replace BX1 := Lib.hid (BX1.out.sm (Sm.of_below HC.out) (by omega))
          replace CX1 := Lib.hid (CX1.out.sm (Sm.of_below HC.out) (by omega))
          replace FB := Lib.hid (FBX.out _ HC.out)
          have hzz12 := HC.out.size
          replace FN := Nat.le_trans FN hzz12
          clear hks KS HC FBX hlCX0 hlBX0
          clear hbf12
          clear xCX00 xCX01 xCX02 xCX03 xCX04
          clear xBX00 xBX01 xBX02 xBX03 xBX04
          clear hrowt0 hgt0
          clear hbt0
          clear Y0
          have hlCX1 := CX1.out.lt (by simp)
          have hlBX1 := BX1.out.lt (by simp)
          have xCX10 := CX1.out 0 _ rfl
          have xCX11 := CX1.out 1 _ rfl
          have xCX12 := CX1.out 2 _ rfl
          have xCX13 := CX1.out 3 _ rfl
          have xCX14 := CX1.out 4 _ rfl
          have xBX10 := BX1.out 0 _ rfl
          have xBX11 := BX1.out 1 _ rfl
          have xBX12 := BX1.out 2 _ rfl
          have xBX13 := BX1.out 3 _ rfl
          have xBX14 := BX1.out 4 _ rfl
          have KS := Lib.hid (fun w' (hb : Below w12_.heap.size w12_ w') => (show (w'.cell? ⟨w8_.heap.size, 0, none⟩ = some (.int .i64 x1.f0) ∧ w'.cell? ⟨w8_.heap.size, 1, none⟩ = some (.int .i64 x1.f1) ∧ w'.cell? ⟨w8_.heap.size, 2, none⟩ = some (.int .i64 x1.f2) ∧ w'.cell? ⟨w8_.heap.size, 3, none⟩ = some (.int .i64 x1.f3) ∧ w'.cell? ⟨w8_.heap.size, 4, none⟩ = some (.slice (some ⟨g8, 0, none⟩) x1.f4.length x1.f4.length)) ∧ (w'.cell? ⟨(w.heap.size + 1), 0, none⟩ = some (.int .i64 x1.f0) ∧ w'.cell? ⟨(w.heap.size + 1), 1, none⟩ = some (.int .i64 x1.f1) ∧ w'.cell? ⟨(w.heap.size + 1), 2, none⟩ = some (.int .i64 x1.f2) ∧ w'.cell? ⟨(w.heap.size + 1), 3, none⟩ = some (.int .i64 x1.f3) ∧ w'.cell? ⟨(w.heap.size + 1), 4, none⟩ = some (.slice s1 x1.f4.length cap1)) from ⟨⟨(CX1.out.below hb hlCX1) 0 _ rfl, (CX1.out.below hb hlCX1) 1 _ rfl, (CX1.out.below hb hlCX1) 2 _ rfl, (CX1.out.below hb hlCX1) 3 _ rfl, (CX1.out.below hb hlCX1) 4 _ rfl⟩, ⟨(BX1.out.below hb hlBX1) 0 _ rfl, (BX1.out.below hb hlBX1) 1 _ rfl, (BX1.out.below hb hlBX1) 2 _ rfl, (BX1.out.below hb hlBX1) 3 _ rfl, (BX1.out.below hb hlBX1) 4 _ rfl⟩⟩))
          have hks : (w12_.cell? ⟨w8_.heap.size, 0, none⟩ = some (.int .i64 x1.f0) ∧ w12_.cell? ⟨w8_.heap.size, 1, none⟩ = some (.int .i64 x1.f1) ∧ w12_.cell? ⟨w8_.heap.size, 2, none⟩ = some (.int .i64 x1.f2) ∧ w12_.cell? ⟨w8_.heap.size, 3, none⟩ = some (.int .i64 x1.f3) ∧ w12_.cell? ⟨w8_.heap.size, 4, none⟩ = some (.slice (some ⟨g8, 0, none⟩) x1.f4.length x1.f4.length)) ∧ (w12_.cell? ⟨(w.heap.size + 1), 0, none⟩ = some (.int .i64 x1.f0) ∧ w12_.cell? ⟨(w.heap.size + 1), 1, none⟩ = some (.int .i64 x1.f1) ∧ w12_.cell? ⟨(w.heap.size + 1), 2, none⟩ = some (.int .i64 x1.f2) ∧ w12_.cell? ⟨(w.heap.size + 1), 3, none⟩ = some (.int .i64 x1.f3) ∧ w12_.cell? ⟨(w.heap.size + 1), 4, none⟩ = some (.slice s1 x1.f4.length cap1)) := KS.out _ (Below.refl _ _)
          have FBX := Lib.hid (fun w' (hb : Below w12_.heap.size w12_ w') => (show Below w.heap.size w w' from FB.out.trans (hb.mono FN)))
          have HC := Lib.hid (show Below w12_.heap.size w12_ w12_.drew from (Below.refl _ _).drew)
          replace RS := Lib.hid RS.out.drew
          replace X0 := Lib.hid X0.out.drew
          replace X1 := Lib.hid X1.out.drew
          replace RG := Lib.hid RG.out.drew
          go_wp2
          go_region_held3 (fun w' => (w'.cell? ⟨w8_.heap.size, 0, none⟩ = some (.int .i64 x1.f0) ∧ w'.cell? ⟨w8_.heap.size, 1, none⟩ = some (.int .i64 x1.f1) ∧ w'.cell? ⟨w8_.heap.size, 2, none⟩ = some (.int .i64 x1.f2) ∧ w'.cell? ⟨w8_.heap.size, 3, none⟩ = some (.int .i64 x1.f3) ∧ w'.cell? ⟨w8_.heap.size, 4, none⟩ = some (.slice (some ⟨g8, 0, none⟩) x1.f4.length x1.f4.length)) ∧ (w'.cell? ⟨(w.heap.size + 1), 0, none⟩ = some (.int .i64 x1.f0) ∧ w'.cell? ⟨(w.heap.size + 1), 1, none⟩ = some (.int .i64 x1.f1) ∧ w'.cell? ⟨(w.heap.size + 1), 2, none⟩ = some (.int .i64 x1.f2) ∧ w'.cell? ⟨(w.heap.size + 1), 3, none⟩ = some (.int .i64 x1.f3) ∧ w'.cell? ⟨(w.heap.size + 1), 4, none⟩ = some (.slice s1 x1.f4.length cap1)))
            (first | (with_reducible exact KS.out _ HC.out) | (with_reducible exact KS.out _ (HC.out.alloc HC.out.size _)) | go_keep)
            (first
              | (go_at_call 17; ((with_reducible refine (TO1.out _ (FBX.out _ HC.out)).mono ?_); rintro e wt1 ⟨gt1, rfl, hrowt1, hgt1, hbt1⟩; (try (replace RS := Lib.hid (RS.out.sm (Sm.of_below hbt1) (by omega)))); (try (replace X0 := Lib.hid (X0.out.sm (Sm.of_below hbt1) (by omega)))); (try (replace X1 := Lib.hid (X1.out.sm (Sm.of_below hbt1) (by omega)))); (try (replace RG := Lib.hid (RG.out.sm (Sm.of_below hbt1) (by omega)))); (try (replace Y1 := Lib.hid (Y1.out.sm (Sm.of_below hbt1) (by omega)))); replace HC := Lib.hid (HC.out.trans (hbt1.mono HC.out.size)); have Y1 := Lib.hid (hrowt1.sli hgt1)))
              | (go_at_call 19; ((with_reducible refine (EX1.out _ _ _ _ _ X1.out.sl Y1.out.sl).mono ?_); rintro e w13_ ⟨rfl, hb13⟩; have hbf13 := HC.out.size; (try (replace RS := Lib.hid (RS.out.sm (Sm.of_below hb13) (by omega)))); (try (replace X0 := Lib.hid (X0.out.sm (Sm.of_below hb13) (by omega)))); (try (replace X1 := Lib.hid (X1.out.sm (Sm.of_below hb13) (by omega)))); (try (replace RG := Lib.hid (RG.out.sm (Sm.of_below hb13) (by omega)))); (try (replace Y1 := Lib.hid (Y1.out.sm (Sm.of_below hb13) (by omega)))); replace HC := Lib.hid (HC.out.trans (hb13.mono HC.out.size)); skip))
              | fail)
          all_goals
            replace CX1 := Lib.hid (CX1.out.below HC.out hlCX1)
            replace BX1 := Lib.hid (BX1.out.below HC.out hlBX1)
            replace BX0 := Lib.hid (BX0.out.sm (Sm.of_below HC.out) (by omega))
            replace CX0 := Lib.hid (CX0.out.sm (Sm.of_below HC.out) (by omega))
            replace FB := Lib.hid (FBX.out _ HC.out)
            have hzz13 := HC.out.size
            replace FN := Nat.le_trans FN hzz13
            clear hks KS HC FBX hlCX1 hlBX1
            clear hbf13
            clear xCX10 xCX11 xCX12 xCX13 xCX14
            clear xBX10 xBX11 xBX12 xBX13 xBX14
            clear hrowt1 hgt1
            clear hbt1
            clear Y1
            have xCX00 := CX0.out 0 _ rfl
            have xCX01 := CX0.out 1 _ rfl
            have xCX02 := CX0.out 2 _ rfl
            have xCX03 := CX0.out 3 _ rfl
            have xCX04 := CX0.out 4 _ rfl
            go_wp2_with fail
            refine (MX0.out _ w5_.heap.size w6_.heap.size _ (by omega) (X0.out.mono (by omega) (by omega))).mono ?_
            rintro e w14_ ⟨rfl, hmr14, hmb14, hms14⟩
            clear xCX00 xCX01 xCX02 xCX03 xCX04
            clear X0
            replace BX0 := Lib.hid (BX0.out.sm hms14 (by omega))
            replace BX1 := Lib.hid (BX1.out.sm hms14 (by omega))
            replace RS := Lib.hid (RS.out.sm hms14 (by omega))
            replace CX0 := Lib.hid (CX0.out.sm hms14 (by omega))
            replace X1 := Lib.hid (X1.out.sm hms14 (by omega))
            replace CX1 := Lib.hid (CX1.out.sm hms14 (by omega))
            replace RG := Lib.hid (RG.out.sm hms14 (by omega))
            replace FB := Lib.hid (FB.out.trans (hmb14 _ (by omega) FN))
            have hzm14 := hms14.size
            replace FN := Nat.le_trans FN hzm14
            clear hmb14 hms14 hmr14
            have xCX10 := CX1.out 0 _ rfl
            have xCX11 := CX1.out 1 _ rfl
            have xCX12 := CX1.out 2 _ rfl
            have xCX13 := CX1.out 3 _ rfl
            have xCX14 := CX1.out 4 _ rfl
            go_wp2_with fail
            refine (MX1.out _ (w6_.alloc (.cells #[.int .i64 x0.f0, .int .i64 x0.f1, .int .i64 x0.f2, .int .i64 x0.f3, .slice (some ⟨g6, 0, none⟩) x0.f4.length x0.f4.length] 29)).heap.size w8_.heap.size _ (by omega) (X1.out.mono (by omega) (by omega))).mono ?_
            rintro e w15_ ⟨rfl, hmr15, hmb15, hms15⟩
            clear xCX10 xCX11 xCX12 xCX13 xCX14
            clear X1
            replace BX0 := Lib.hid (BX0.out.sm hms15 (by omega))
            replace BX1 := Lib.hid (BX1.out.sm hms15 (by omega))
            replace RS := Lib.hid (RS.out.sm hms15 (by omega))
            replace CX0 := Lib.hid (CX0.out.sm hms15 (by omega))
            replace CX1 := Lib.hid (CX1.out.sm hms15 (by omega))
            replace RG := Lib.hid (RG.out.sm hms15 (by omega))
            replace FB := Lib.hid (FB.out.trans (hmb15 _ (by omega) FN))
            have hzm15 := hms15.size
            replace FN := Nat.le_trans FN hzm15
            clear hmb15 hms15 hmr15
            go_wp2_with fail
            refine (EQ.out _ _ _ _ _ RG.out.sl RS.out.sl).mono ?_
            rintro e w16_ ⟨rfl, hb16⟩
            have hS := Sm.of_below hb16
            replace BX0 := Lib.hid (BX0.out.sm hS (by omega))
            replace BX1 := Lib.hid (BX1.out.sm hS (by omega))
            replace RS := Lib.hid (RS.out.sm hS (by omega))
            replace CX0 := Lib.hid (CX0.out.sm hS (by omega))
            replace CX1 := Lib.hid (CX1.out.sm hS (by omega))
            replace RG := Lib.hid (RG.out.sm hS (by omega))
            replace FB := Lib.hid (below_step FB.out FN hb16)
            have hzw16_ := hb16.size
            replace FN := Nat.le_trans FN hzw16_
            clear hS hb16
            go_wp2_with fail
            refine (MK.out _ _ (w8_.alloc (.cells #[.int .i64 x1.f0, .int .i64 x1.f1, .int .i64 x1.f2, .int .i64 x1.f3, .slice (some ⟨g8, 0, none⟩) x1.f4.length x1.f4.length] 29)).heap.size w10_.heap.size _ (by omega) (RG.out.mono (by omega) (by omega))).mono ?_
            rintro e w17_ ⟨rfl, hmr17, hmb17, hms17⟩
            clear RG
            replace BX0 := Lib.hid (BX0.out.sm hms17 (by omega))
            replace BX1 := Lib.hid (BX1.out.sm hms17 (by omega))
            replace RS := Lib.hid (RS.out.sm hms17 (by omega))
            replace CX0 := Lib.hid (CX0.out.sm hms17 (by omega))
            replace CX1 := Lib.hid (CX1.out.sm hms17 (by omega))
            replace FB := Lib.hid (FB.out.trans (hmb17 _ (by omega) FN))
            have hzm17 := hms17.size
            replace FN := Nat.le_trans FN hzm17
            have RM := Lib.hid hmr17
            clear hmb17 hms17 hmr17
            go_wp2_with fail
            refine (HD.out _ _ _ RM.out.sl).mono ?_
            rintro e w18_ ⟨rfl, hb18⟩
            have hS := Sm.of_below hb18
            replace BX0 := Lib.hid (BX0.out.sm hS (by omega))
            replace BX1 := Lib.hid (BX1.out.sm hS (by omega))
            replace RS := Lib.hid (RS.out.sm hS (by omega))
            replace CX0 := Lib.hid (CX0.out.sm hS (by omega))
            replace CX1 := Lib.hid (CX1.out.sm hS (by omega))
            replace RM := Lib.hid (RM.out.sm hS (by omega))
            replace FB := Lib.hid (below_step FB.out FN hb18)
            have hzw18_ := hb18.size
            replace FN := Nat.le_trans FN hzw18_
            clear hS hb18
            have hlBX0 := BX0.out.lt (by simp)
            have hlBX1 := BX1.out.lt (by simp)
            have xBX00 := BX0.out 0 _ rfl
            have xBX01 := BX0.out 1 _ rfl
            have xBX02 := BX0.out 2 _ rfl
            have xBX03 := BX0.out 3 _ rfl
            have xBX04 := BX0.out 4 _ rfl
            have xBX10 := BX1.out 0 _ rfl
            have xBX11 := BX1.out 1 _ rfl
            have xBX12 := BX1.out 2 _ rfl
            have xBX13 := BX1.out 3 _ rfl
            have xBX14 := BX1.out 4 _ rfl
            have KS := Lib.hid (fun w' (hb : Below w18_.heap.size w18_ w') => (show (w'.cell? ⟨w.heap.size, 0, none⟩ = some (.int .i64 x0.f0) ∧ w'.cell? ⟨w.heap.size, 1, none⟩ = some (.int .i64 x0.f1) ∧ w'.cell? ⟨w.heap.size, 2, none⟩ = some (.int .i64 x0.f2) ∧ w'.cell? ⟨w.heap.size, 3, none⟩ = some (.int .i64 x0.f3) ∧ w'.cell? ⟨w.heap.size, 4, none⟩ = some (.slice s0 x0.f4.length cap0)) ∧ (w'.cell? ⟨(w.heap.size + 1), 0, none⟩ = some (.int .i64 x1.f0) ∧ w'.cell? ⟨(w.heap.size + 1), 1, none⟩ = some (.int .i64 x1.f1) ∧ w'.cell? ⟨(w.heap.size + 1), 2, none⟩ = some (.int .i64 x1.f2) ∧ w'.cell? ⟨(w.heap.size + 1), 3, none⟩ = some (.int .i64 x1.f3) ∧ w'.cell? ⟨(w.heap.size + 1), 4, none⟩ = some (.slice s1 x1.f4.length cap1)) from ⟨⟨(BX0.out.below hb hlBX0) 0 _ rfl, (BX0.out.below hb hlBX0) 1 _ rfl, (BX0.out.below hb hlBX0) 2 _ rfl, (BX0.out.below hb hlBX0) 3 _ rfl, (BX0.out.below hb hlBX0) 4 _ rfl⟩, ⟨(BX1.out.below hb hlBX1) 0 _ rfl, (BX1.out.below hb hlBX1) 1 _ rfl, (BX1.out.below hb hlBX1) 2 _ rfl, (BX1.out.below hb hlBX1) 3 _ rfl, (BX1.out.below hb hlBX1) 4 _ rfl⟩⟩))
            have hks : (w18_.cell? ⟨w.heap.size, 0, none⟩ = some (.int .i64 x0.f0) ∧ w18_.cell? ⟨w.heap.size, 1, none⟩ = some (.int .i64 x0.f1) ∧ w18_.cell? ⟨w.heap.size, 2, none⟩ = some (.int .i64 x0.f2) ∧ w18_.cell? ⟨w.heap.size, 3, none⟩ = some (.int .i64 x0.f3) ∧ w18_.cell? ⟨w.heap.size, 4, none⟩ = some (.slice s0 x0.f4.length cap0)) ∧ (w18_.cell? ⟨(w.heap.size + 1), 0, none⟩ = some (.int .i64 x1.f0) ∧ w18_.cell? ⟨(w.heap.size + 1), 1, none⟩ = some (.int .i64 x1.f1) ∧ w18_.cell? ⟨(w.heap.size + 1), 2, none⟩ = some (.int .i64 x1.f2) ∧ w18_.cell? ⟨(w.heap.size + 1), 3, none⟩ = some (.int .i64 x1.f3) ∧ w18_.cell? ⟨(w.heap.size + 1), 4, none⟩ = some (.slice s1 x1.f4.length cap1)) := KS.out _ (Below.refl _ _)
            have FBX := Lib.hid (fun w' (hb : Below w18_.heap.size w18_ w') => (show Below w.heap.size w w' from FB.out.trans (hb.mono FN)))
            have HC := Lib.hid (show Below w18_.heap.size w18_ w18_.drew from (Below.refl _ _).drew)
            replace RS := Lib.hid RS.out.drew
            replace RM := Lib.hid RM.out.drew
            go_wp2
            go_region_held3 (fun w' => (w'.cell? ⟨w.heap.size, 0, none⟩ = some (.int .i64 x0.f0) ∧ w'.cell? ⟨w.heap.size, 1, none⟩ = some (.int .i64 x0.f1) ∧ w'.cell? ⟨w.heap.size, 2, none⟩ = some (.int .i64 x0.f2) ∧ w'.cell? ⟨w.heap.size, 3, none⟩ = some (.int .i64 x0.f3) ∧ w'.cell? ⟨w.heap.size, 4, none⟩ = some (.slice s0 x0.f4.length cap0)) ∧ (w'.cell? ⟨(w.heap.size + 1), 0, none⟩ = some (.int .i64 x1.f0) ∧ w'.cell? ⟨(w.heap.size + 1), 1, none⟩ = some (.int .i64 x1.f1) ∧ w'.cell? ⟨(w.heap.size + 1), 2, none⟩ = some (.int .i64 x1.f2) ∧ w'.cell? ⟨(w.heap.size + 1), 3, none⟩ = some (.int .i64 x1.f3) ∧ w'.cell? ⟨(w.heap.size + 1), 4, none⟩ = some (.slice s1 x1.f4.length cap1)))
              (first | (with_reducible exact KS.out _ HC.out) | (with_reducible exact KS.out _ (HC.out.alloc HC.out.size _)) | go_keep)
              (first
                | (go_at_call 17; first | ((with_reducible refine (TO0.out _ (FBX.out _ HC.out)).mono ?_); rintro e wt0 ⟨gt0, rfl, hrowt0, hgt0, hbt0⟩; (try (replace RS := Lib.hid (RS.out.sm (Sm.of_below hbt0) (by omega)))); (try (replace RM := Lib.hid (RM.out.sm (Sm.of_below hbt0) (by omega)))); (try (replace V0 := Lib.hid (V0.out.sm (Sm.of_below hbt0) (by omega)))); (try (replace V1 := Lib.hid (V1.out.sm (Sm.of_below hbt0) (by omega)))); replace HC := Lib.hid (HC.out.trans (hbt0.mono HC.out.size)); have V0 := Lib.hid (hrowt0.sli hgt0)) | ((with_reducible refine (TO1.out _ (FBX.out _ HC.out)).mono ?_); rintro e wt1 ⟨gt1, rfl, hrowt1, hgt1, hbt1⟩; (try (replace RS := Lib.hid (RS.out.sm (Sm.of_below hbt1) (by omega)))); (try (replace RM := Lib.hid (RM.out.sm (Sm.of_below hbt1) (by omega)))); (try (replace V0 := Lib.hid (V0.out.sm (Sm.of_below hbt1) (by omega)))); (try (replace V1 := Lib.hid (V1.out.sm (Sm.of_below hbt1) (by omega)))); replace HC := Lib.hid (HC.out.trans (hbt1.mono HC.out.size)); have V1 := Lib.hid (hrowt1.sli hgt1)))
                | (go_at_call 41; ((with_reducible refine (IM.out _ _ _ V0.out.sl V1.out.sl).mono ?_); rintro e w19_ ⟨s19, d19, rfl, hso19, hb19⟩; have hbf19 := HC.out.size; (try (replace RS := Lib.hid (RS.out.sm (Sm.of_below hb19) (by omega)))); (try (replace RM := Lib.hid (RM.out.sm (Sm.of_below hb19) (by omega)))); (try (replace V0 := Lib.hid (V0.out.sm (Sm.of_below hb19) (by omega)))); (try (replace V1 := Lib.hid (V1.out.sm (Sm.of_below hb19) (by omega)))); replace HC := Lib.hid (HC.out.trans (hb19.mono HC.out.size)); skip))
                | fail)
            all_goals
              replace BX0 := Lib.hid (BX0.out.below HC.out hlBX0)
              replace BX1 := Lib.hid (BX1.out.below HC.out hlBX1)
              replace CX0 := Lib.hid (CX0.out.sm (Sm.of_below HC.out) (by omega))
              replace CX1 := Lib.hid (CX1.out.sm (Sm.of_below HC.out) (by omega))
              replace FB := Lib.hid (FBX.out _ HC.out)
              have hzz19 := HC.out.size
              replace FN := Nat.le_trans FN hzz19
              clear hks KS HC FBX hlBX0 hlBX1
              clear xBX00 xBX01 xBX02 xBX03 xBX04
              clear xBX10 xBX11 xBX12 xBX13 xBX14
              clear hrowt0 hgt0
              clear hbt0
              clear hrowt1 hgt1
              clear hbt1
              have RH := Lib.hid (hso19.within.mono hbf19 (Nat.le_refl _))
              clear hso19 hbf19
              clear V0
              clear V1
              go_wp2_with fail
              refine (EQ.out _ _ _ _ _ RH.out.sl RS.out.sl).mono ?_
              rintro e w20_ ⟨rfl, hb20⟩
              have hS := Sm.of_below hb20
              replace BX0 := Lib.hid (BX0.out.sm hS (by omega))
              replace BX1 := Lib.hid (BX1.out.sm hS (by omega))
              replace RS := Lib.hid (RS.out.sm hS (by omega))
              replace CX0 := Lib.hid (CX0.out.sm hS (by omega))
              replace CX1 := Lib.hid (CX1.out.sm hS (by omega))
              replace RM := Lib.hid (RM.out.sm hS (by omega))
              replace RH := Lib.hid (RH.out.sm hS (by omega))
              replace FB := Lib.hid (below_step FB.out FN hb20)
              have hzw20_ := hb20.size
              replace FN := Nat.le_trans FN hzw20_
              clear hS hb20
              go_wp2_with fail
              refine (HD.out _ _ _ RM.out.sl).mono ?_
              rintro e w21_ ⟨rfl, hb21⟩
              have hS := Sm.of_below hb21
              replace BX0 := Lib.hid (BX0.out.sm hS (by omega))
              replace BX1 := Lib.hid (BX1.out.sm hS (by omega))
              replace RS := Lib.hid (RS.out.sm hS (by omega))
              replace CX0 := Lib.hid (CX0.out.sm hS (by omega))
              replace CX1 := Lib.hid (CX1.out.sm hS (by omega))
              replace RM := Lib.hid (RM.out.sm hS (by omega))
              replace RH := Lib.hid (RH.out.sm hS (by omega))
              replace FB := Lib.hid (below_step FB.out FN hb21)
              have hzw21_ := hb21.size
              replace FN := Nat.le_trans FN hzw21_
              clear hS hb21
              go_wp2
              go_ret
              exact ⟨rfl, FB.out⟩
end Go.Proofs.Ytpcfhfnlpcpofaa.fnExactChangedSectors
