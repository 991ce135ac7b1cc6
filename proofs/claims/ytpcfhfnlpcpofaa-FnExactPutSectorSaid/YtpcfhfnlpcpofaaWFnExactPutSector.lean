/- FnExactPutSector: the law's walk. -/
import Derived.Test.YtpcfhfnlpcpofaaSm
import Derived.Test.YtpcfhfnlpcpofaaRecSm
import Derived.Test.YtpcfhfnlpcpofaaOpenFlux
import Derived.Test.YtpcfhfnlpcpofaaBoxes
import Derived.Test.YtpcfhfnlpcpofaaPutSpec
import Derived.Test.YtpcfhfnlpcpofaaOpenRecSector
import Derived.Test.YtpcfhfnlpcpofaaOneDisc
import Derived.Test.YtpcfhfnlpcpofaaRecSector
import Derived.Test.YtpcfhfnlpcpofaaMarkOneDisc
import Derived.Test.YtpcfhfnlpcpofaaOneCut
namespace Go.Proofs.Ytpcfhfnlpcpofaa.fnExactPutSector
open Go.RowKit
set_option linter.unusedVariables false
set_option maxRecDepth 20000 in
set_option maxHeartbeats 8000000 in
theorem walk (x0 : DiscV) (s0 : Option Addr) (cap0 : Nat) (a1 : Int) (e2 : SectorV) (w : World) (w0 : ArgDisc w s0 x0) (w1 : (Lit.int .i64 a1).wf = true) (w2_0 : e2.f0.size ≤ maxLen) :
    Calls Try.prog 8 #[.agg #[.int .i64 x0.f0, .int .i64 x0.f1, .int .i64 x0.f2, .int .i64 x0.f3, .slice s0 x0.f4.length cap0], .int .i64 a1, .agg #[.string e2.f0, .int .i64 e2.f1]] w fun e w' => e = .returned (.bool true) ∧ Below w.heap.size w w' := by
  obtain ⟨hm0, hsl0, v0⟩ := w0
  by_cases hk0 : wtDisc x0 ≤ 1048576
  case neg =>
    have SN0 := Lib.hid (fun w' (hb : Below w.heap.size w w') => (szDisc_any x0 s0 cap0 1048576 w' (by omega) hm0 v0 (hsl0.below hb (Nat.le_refl _))).mono (fun e w'' ⟨he, hw⟩ => (show e = Ending.returned (.int .i64 (-1)) ∧ Below w'.heap.size w' w'' from ⟨by rw [he]; unfold szV; rw [if_neg hk0], hw⟩)))
    clear hsl0
    go_enter Try.func8, Try.ntmps8
    have FB := Lib.hid (show Below w.heap.size w w from Below.refl _ _)
    have FN : w.heap.size ≤ w.heap.size := Nat.le_refl _
    have hS := Sm.alloc w (.cells #[.int .i64 x0.f0, .int .i64 x0.f1, .int .i64 x0.f2, .int .i64 x0.f3, .slice s0 x0.f4.length cap0] 24)
    have BX0 := Lib.hid (BoxAt.new w #[.int .i64 x0.f0, .int .i64 x0.f1, .int .i64 x0.f2, .int .i64 x0.f3, .slice s0 x0.f4.length cap0] 24 w.heap.size rfl)
    replace FB := Lib.hid (below_new FB.out FN (.cells #[.int .i64 x0.f0, .int .i64 x0.f1, .int .i64 x0.f2, .int .i64 x0.f3, .slice s0 x0.f4.length cap0] 24))
    have hq1 : (w.alloc (.cells #[.int .i64 x0.f0, .int .i64 x0.f1, .int .i64 x0.f2, .int .i64 x0.f3, .slice s0 x0.f4.length cap0] 24)).heap.size = w.heap.size + 1 := by simp
    replace FN : w.heap.size ≤ (w.alloc (.cells #[.int .i64 x0.f0, .int .i64 x0.f1, .int .i64 x0.f2, .int .i64 x0.f3, .slice s0 x0.f4.length cap0] 24)).heap.size := by omega
    clear hS
    have hS := Sm.alloc (w.alloc (.cells #[.int .i64 x0.f0, .int .i64 x0.f1, .int .i64 x0.f2, .int .i64 x0.f3, .slice s0 x0.f4.length cap0] 24)) (.cells #[.string e2.f0, .int .i64 e2.f1] 46)
    replace BX0 := Lib.hid (BX0.out.sm hS (by omega))
    have BX2 := Lib.hid (BoxAt.new (w.alloc (.cells #[.int .i64 x0.f0, .int .i64 x0.f1, .int .i64 x0.f2, .int .i64 x0.f3, .slice s0 x0.f4.length cap0] 24)) #[.string e2.f0, .int .i64 e2.f1] 46 (w.heap.size + 1) (by simp))
    replace FB := Lib.hid (below_new FB.out FN (.cells #[.string e2.f0, .int .i64 e2.f1] 46))
    have hq2 : ((w.alloc (.cells #[.int .i64 x0.f0, .int .i64 x0.f1, .int .i64 x0.f2, .int .i64 x0.f3, .slice s0 x0.f4.length cap0] 24)).alloc (.cells #[.string e2.f0, .int .i64 e2.f1] 46)).heap.size = (w.alloc (.cells #[.int .i64 x0.f0, .int .i64 x0.f1, .int .i64 x0.f2, .int .i64 x0.f3, .slice s0 x0.f4.length cap0] 24)).heap.size + 1 := by simp
    replace FN : w.heap.size ≤ ((w.alloc (.cells #[.int .i64 x0.f0, .int .i64 x0.f1, .int .i64 x0.f2, .int .i64 x0.f3, .slice s0 x0.f4.length cap0] 24)).alloc (.cells #[.string e2.f0, .int .i64 e2.f1] 46)).heap.size := by omega
    clear hS
    have xBX00 := BX0.out 0 _ rfl
    have xBX01 := BX0.out 1 _ rfl
    have xBX02 := BX0.out 2 _ rfl
    have xBX03 := BX0.out 3 _ rfl
    have xBX04 := BX0.out 4 _ rfl
    go_wp2_with fail
    refine (SN0.out _ FB.out).mono ?_
    rintro e w3_ ⟨rfl, hb3⟩
    clear xBX00 xBX01 xBX02 xBX03 xBX04
    have hS := Sm.of_below hb3
    replace BX0 := Lib.hid (BX0.out.sm hS (by omega))
    replace BX2 := Lib.hid (BX2.out.sm hS (by omega))
    replace FB := Lib.hid (below_step FB.out FN hb3)
    have hzw3_ := hb3.size
    replace FN := Nat.le_trans FN hzw3_
    clear hS hb3
    go_wp2
    go_ret
    exact ⟨rfl, FB.out⟩
  case pos =>
    have sz0 := fun w' (hb : Below w.heap.size w w') => (szDisc_any x0 s0 cap0 1048576 w' (by omega) hm0 v0 (hsl0.below hb (Nat.le_refl _))).mono (fun e w'' ⟨he, hw⟩ => (show e = Ending.returned (.int .i64 ((1048576 - wtDisc x0 : Nat) : Int)) ∧ Below w'.heap.size w' w'' from ⟨by rw [he]; unfold szV; rw [if_pos hk0], hw⟩))
    obtain ⟨lf0, hlf0⟩ : ∃ m, 1048576 - wtDisc x0 = m := ⟨_, rfl⟩
    rw [hlf0] at sz0
    have hlfb0 : ¬ ((lf0 : Int) < 0) := by omega
    have hlfc0 : lf0 ≤ 1048576 := by omega
    have SZ0 := Lib.hid sz0; clear sz0
    by_cases hk2 : e2.f0.size ≤ lf0
    case neg =>
      have SN2 := Lib.hid (fun w' => (szSector_any e2 lf0 w' (by omega) w2_0).mono (fun e w'' ⟨he, hw⟩ => (show e = Ending.returned (.int .i64 (-1)) ∧ Below w'.heap.size w' w'' from ⟨by rw [he]; unfold szV; rw [if_neg hk2], hw⟩)))
      clear hsl0
      go_enter Try.func8, Try.ntmps8
      have FB := Lib.hid (show Below w.heap.size w w from Below.refl _ _)
      have FN : w.heap.size ≤ w.heap.size := Nat.le_refl _
      have hS := Sm.alloc w (.cells #[.int .i64 x0.f0, .int .i64 x0.f1, .int .i64 x0.f2, .int .i64 x0.f3, .slice s0 x0.f4.length cap0] 24)
      have BX0 := Lib.hid (BoxAt.new w #[.int .i64 x0.f0, .int .i64 x0.f1, .int .i64 x0.f2, .int .i64 x0.f3, .slice s0 x0.f4.length cap0] 24 w.heap.size rfl)
      replace FB := Lib.hid (below_new FB.out FN (.cells #[.int .i64 x0.f0, .int .i64 x0.f1, .int .i64 x0.f2, .int .i64 x0.f3, .slice s0 x0.f4.length cap0] 24))
      have hq1 : (w.alloc (.cells #[.int .i64 x0.f0, .int .i64 x0.f1, .int .i64 x0.f2, .int .i64 x0.f3, .slice s0 x0.f4.length cap0] 24)).heap.size = w.heap.size + 1 := by simp
      replace FN : w.heap.size ≤ (w.alloc (.cells #[.int .i64 x0.f0, .int .i64 x0.f1, .int .i64 x0.f2, .int .i64 x0.f3, .slice s0 x0.f4.length cap0] 24)).heap.size := by omega
      clear hS
      have hS := Sm.alloc (w.alloc (.cells #[.int .i64 x0.f0, .int .i64 x0.f1, .int .i64 x0.f2, .int .i64 x0.f3, .slice s0 x0.f4.length cap0] 24)) (.cells #[.string e2.f0, .int .i64 e2.f1] 46)
      replace BX0 := Lib.hid (BX0.out.sm hS (by omega))
      have BX2 := Lib.hid (BoxAt.new (w.alloc (.cells #[.int .i64 x0.f0, .int .i64 x0.f1, .int .i64 x0.f2, .int .i64 x0.f3, .slice s0 x0.f4.length cap0] 24)) #[.string e2.f0, .int .i64 e2.f1] 46 (w.heap.size + 1) (by simp))
      replace FB := Lib.hid (below_new FB.out FN (.cells #[.string e2.f0, .int .i64 e2.f1] 46))
      have hq2 : ((w.alloc (.cells #[.int .i64 x0.f0, .int .i64 x0.f1, .int .i64 x0.f2, .int .i64 x0.f3, .slice s0 x0.f4.length cap0] 24)).alloc (.cells #[.string e2.f0, .int .i64 e2.f1] 46)).heap.size = (w.alloc (.cells #[.int .i64 x0.f0, .int .i64 x0.f1, .int .i64 x0.f2, .int .i64 x0.f3, .slice s0 x0.f4.length cap0] 24)).heap.size + 1 := by simp
      replace FN : w.heap.size ≤ ((w.alloc (.cells #[.int .i64 x0.f0, .int .i64 x0.f1, .int .i64 x0.f2, .int .i64 x0.f3, .slice s0 x0.f4.length cap0] 24)).alloc (.cells #[.string e2.f0, .int .i64 e2.f1] 46)).heap.size := by omega
      clear hS
      have xBX00 := BX0.out 0 _ rfl
      have xBX01 := BX0.out 1 _ rfl
      have xBX02 := BX0.out 2 _ rfl
      have xBX03 := BX0.out 3 _ rfl
      have xBX04 := BX0.out 4 _ rfl
      go_wp2_with fail
      refine (SZ0.out _ FB.out).mono ?_
      rintro e w3_ ⟨rfl, hb3⟩
      clear xBX00 xBX01 xBX02 xBX03 xBX04
      have hS := Sm.of_below hb3
      replace BX0 := Lib.hid (BX0.out.sm hS (by omega))
      replace BX2 := Lib.hid (BX2.out.sm hS (by omega))
      replace FB := Lib.hid (below_step FB.out FN hb3)
      have hzw3_ := hb3.size
      replace FN := Nat.le_trans FN hzw3_
      clear hS hb3
      have xBX20 := BX2.out 0 _ rfl
      have xBX21 := BX2.out 1 _ rfl
      go_wp2_with fail
      refine (SN2.out _).mono ?_
      rintro e w4_ ⟨rfl, hb4⟩
      clear xBX20 xBX21
      have hS := Sm.of_below hb4
      replace BX0 := Lib.hid (BX0.out.sm hS (by omega))
      replace BX2 := Lib.hid (BX2.out.sm hS (by omega))
      replace FB := Lib.hid (below_step FB.out FN hb4)
      have hzw4_ := hb4.size
      replace FN := Nat.le_trans FN hzw4_
      clear hS hb4
      go_wp2
      go_ret
      exact ⟨rfl, FB.out⟩
    case pos =>
      have sz2 := fun w' => (szSector_any e2 lf0 w' (by omega) w2_0).mono (fun e w'' ⟨he, hw⟩ => (show e = Ending.returned (.int .i64 ((lf0 - e2.f0.size : Nat) : Int)) ∧ Below w'.heap.size w' w'' from ⟨by rw [he]; unfold szV; rw [if_pos hk2], hw⟩))
      obtain ⟨lf2, hlf2⟩ : ∃ m, lf0 - e2.f0.size = m := ⟨_, rfl⟩
      rw [hlf2] at sz2
      have hlfb2 : ¬ ((lf2 : Int) < 0) := by omega
      have hlfc2 : lf2 ≤ 1048576 := by omega
      have SZ2 := Lib.hid sz2; clear sz2
      have hn0 : x0.f4.length ≤ 1048576 := by have := wtDisc_len x0; omega
      have hv0 : ∀ e ∈ x0.f4, e.f0.size ≤ 1048576 := fun e he => by have := wtSector_at (show wtSector x0.f4 ≤ _ from Nat.le_refl (wtDisc x0)) e he; omega
      have hn2 : e2.f0.size ≤ 1048576 := by omega
      have TO0 := Lib.hid (fun w' (hb : Below w.heap.size w w') => toDisc_any x0 s0 cap0 w' hn0 (hsl0.below hb (Nat.le_refl _)))
      have EX0 := Lib.hid (fun x d y d' w' (h1 : SlS rowSector w' x x0.f4) (h2 : SlS rowSector w' y x0.f4) => eqDisc_any true x0 x d x0 y d' w' (by simp) (by omega) (by omega) h1 h2)
      have TO2 := Lib.hid (fun w' => toSector_any e2 w')
      have hsp := fun g0 w' (h0 : SlS rowSector w' (some ⟨g0, 0, none⟩) x0.f4) => specPutSector_g x0 (some ⟨g0, 0, none⟩) x0.f4.length a1 e2 hn0 hv0 hn2 w' h0
      have him := fun g0 w' (h0 : SlS rowSector w' (some ⟨g0, 0, none⟩) x0.f4) => putSector_g x0 (some ⟨g0, 0, none⟩) x0.f4.length a1 e2 hn0 hv0 hn2 w' h0
      have hR := putV_len x0 a1 e2
      generalize putV x0 a1 e2 = rr at hsp him hR
      have heq := fun x d y d' w' (h1 : SlS rowSector w' x rr.f4) (h2 : SlS rowSector w' y rr.f4) => eqDisc_any true rr x d rr y d' w' (by simp) (by omega) (by omega) h1 h2
      have hmk := fun x d B C w' hC h => markDisc_sm rr x d 1 B C w' (by omega) (by omega) (by omega) hC h
      have hhd := fun x d w' (h : SlS rowSector w' x (mkS mkSector 1 2 rr.f4.length)) => heldDisc_any rr x rr.f4.length d 1 w' (by omega) (by omega) (by omega) h
      unfold MarkedS at hmk
      have hk1 : 1 + 2 * rr.f4.length ≤ 134217728 := by omega
      obtain ⟨kr, hkr⟩ : ∃ m, 1 + 2 * rr.f4.length = m := ⟨_, rfl⟩
      rw [hkr] at hmk hhd hk1
      have hkk : ((kr : Int) != (kr : Int)) = false := by simp
      have hkr0 : ¬ ((kr : Int) < 0) := by omega
      have hmx0 := fun g B C w' hC h => markDisc_sm x0 (some ⟨g, 0, none⟩) x0.f4.length 1 B C w' (by omega) (by omega) (by omega) hC h
      unfold MarkedS at hmx0
      have hxb0 : 1 + 2 * x0.f4.length ≤ 134217728 := by omega
      have hxp0 : 0 < 1 + 2 * x0.f4.length := by omega
      obtain ⟨kx0, hkx0⟩ : ∃ m, 1 + 2 * x0.f4.length = m := ⟨_, rfl⟩
      rw [hkx0] at hmx0 hxb0 hxp0
      have hkxz0 : ¬ ((kx0 : Int) < 0) := by omega
      have MX0 := Lib.hid hmx0; clear hmx0
      have EQ := Lib.hid heq; have MK := Lib.hid hmk; have HD := Lib.hid hhd; clear heq hmk hhd
      generalize putC x0 a1 e2 = r1 at hsp him
      have hvq1 : (r1 != r1) = false := by simp
      have SP := Lib.hid hsp; have IM := Lib.hid him; clear hsp him hsl0
      go_enter Try.func8, Try.ntmps8
      have FB := Lib.hid (show Below w.heap.size w w from Below.refl _ _)
      have FN : w.heap.size ≤ w.heap.size := Nat.le_refl _
      have hS := Sm.alloc w (.cells #[.int .i64 x0.f0, .int .i64 x0.f1, .int .i64 x0.f2, .int .i64 x0.f3, .slice s0 x0.f4.length cap0] 24)
      have BX0 := Lib.hid (BoxAt.new w #[.int .i64 x0.f0, .int .i64 x0.f1, .int .i64 x0.f2, .int .i64 x0.f3, .slice s0 x0.f4.length cap0] 24 w.heap.size rfl)
      replace FB := Lib.hid (below_new FB.out FN (.cells #[.int .i64 x0.f0, .int .i64 x0.f1, .int .i64 x0.f2, .int .i64 x0.f3, .slice s0 x0.f4.length cap0] 24))
      have hq1 : (w.alloc (.cells #[.int .i64 x0.f0, .int .i64 x0.f1, .int .i64 x0.f2, .int .i64 x0.f3, .slice s0 x0.f4.length cap0] 24)).heap.size = w.heap.size + 1 := by simp
      replace FN : w.heap.size ≤ (w.alloc (.cells #[.int .i64 x0.f0, .int .i64 x0.f1, .int .i64 x0.f2, .int .i64 x0.f3, .slice s0 x0.f4.length cap0] 24)).heap.size := by omega
      clear hS
      have hS := Sm.alloc (w.alloc (.cells #[.int .i64 x0.f0, .int .i64 x0.f1, .int .i64 x0.f2, .int .i64 x0.f3, .slice s0 x0.f4.length cap0] 24)) (.cells #[.string e2.f0, .int .i64 e2.f1] 46)
      replace BX0 := Lib.hid (BX0.out.sm hS (by omega))
      have BX2 := Lib.hid (BoxAt.new (w.alloc (.cells #[.int .i64 x0.f0, .int .i64 x0.f1, .int .i64 x0.f2, .int .i64 x0.f3, .slice s0 x0.f4.length cap0] 24)) #[.string e2.f0, .int .i64 e2.f1] 46 (w.heap.size + 1) (by simp))
      replace FB := Lib.hid (below_new FB.out FN (.cells #[.string e2.f0, .int .i64 e2.f1] 46))
      have hq2 : ((w.alloc (.cells #[.int .i64 x0.f0, .int .i64 x0.f1, .int .i64 x0.f2, .int .i64 x0.f3, .slice s0 x0.f4.length cap0] 24)).alloc (.cells #[.string e2.f0, .int .i64 e2.f1] 46)).heap.size = (w.alloc (.cells #[.int .i64 x0.f0, .int .i64 x0.f1, .int .i64 x0.f2, .int .i64 x0.f3, .slice s0 x0.f4.length cap0] 24)).heap.size + 1 := by simp
      replace FN : w.heap.size ≤ ((w.alloc (.cells #[.int .i64 x0.f0, .int .i64 x0.f1, .int .i64 x0.f2, .int .i64 x0.f3, .slice s0 x0.f4.length cap0] 24)).alloc (.cells #[.string e2.f0, .int .i64 e2.f1] 46)).heap.size := by omega
      clear hS
      have xBX00 := BX0.out 0 _ rfl
      have xBX01 := BX0.out 1 _ rfl
      have xBX02 := BX0.out 2 _ rfl
      have xBX03 := BX0.out 3 _ rfl
      have xBX04 := BX0.out 4 _ rfl
      go_wp2_with fail
      refine (SZ0.out _ FB.out).mono ?_
      rintro e w3_ ⟨rfl, hb3⟩
      clear xBX00 xBX01 xBX02 xBX03 xBX04
      have hS := Sm.of_below hb3
      replace BX0 := Lib.hid (BX0.out.sm hS (by omega))
      replace BX2 := Lib.hid (BX2.out.sm hS (by omega))
      replace FB := Lib.hid (below_step FB.out FN hb3)
      have hzw3_ := hb3.size
      replace FN := Nat.le_trans FN hzw3_
      clear hS hb3
      have xBX20 := BX2.out 0 _ rfl
      have xBX21 := BX2.out 1 _ rfl
      go_wp2_with fail
      refine (SZ2.out _).mono ?_
      rintro e w4_ ⟨rfl, hb4⟩
      clear xBX20 xBX21
      have hS := Sm.of_below hb4
      replace BX0 := Lib.hid (BX0.out.sm hS (by omega))
      replace BX2 := Lib.hid (BX2.out.sm hS (by omega))
      replace FB := Lib.hid (below_step FB.out FN hb4)
      have hzw4_ := hb4.size
      replace FN := Nat.le_trans FN hzw4_
      clear hS hb4
      go_upto_region 8 with (fail)
      go_cut [8, 9] (fun v8 v9 wx => Hid (v9 = .int .i64 r1 ∧ OneIn rowSector 41 (fun s d => #[.int .i64 rr.f0, .int .i64 rr.f1, .int .i64 rr.f2, .int .i64 rr.f3, .slice s rr.f4.length d]) rr.f4 w4_ wx v8 ∧ Below w4_.heap.size w4_ wx))
      case first =>
        have hlBX0 := BX0.out.lt (by simp)
        have hlBX2 := BX2.out.lt (by simp)
        have xBX00 := BX0.out 0 _ rfl
        have xBX01 := BX0.out 1 _ rfl
        have xBX02 := BX0.out 2 _ rfl
        have xBX03 := BX0.out 3 _ rfl
        have xBX04 := BX0.out 4 _ rfl
        have xBX20 := BX2.out 0 _ rfl
        have xBX21 := BX2.out 1 _ rfl
        have KS := Lib.hid (fun w' (hb : Below w4_.heap.size w4_ w') => (show (w'.cell? ⟨w.heap.size, 0, none⟩ = some (.int .i64 x0.f0) ∧ w'.cell? ⟨w.heap.size, 1, none⟩ = some (.int .i64 x0.f1) ∧ w'.cell? ⟨w.heap.size, 2, none⟩ = some (.int .i64 x0.f2) ∧ w'.cell? ⟨w.heap.size, 3, none⟩ = some (.int .i64 x0.f3) ∧ w'.cell? ⟨w.heap.size, 4, none⟩ = some (.slice s0 x0.f4.length cap0)) ∧ (w'.cell? ⟨(w.heap.size + 1), 0, none⟩ = some (.string e2.f0) ∧ w'.cell? ⟨(w.heap.size + 1), 1, none⟩ = some (.int .i64 e2.f1)) from ⟨⟨(BX0.out.below hb hlBX0) 0 _ rfl, (BX0.out.below hb hlBX0) 1 _ rfl, (BX0.out.below hb hlBX0) 2 _ rfl, (BX0.out.below hb hlBX0) 3 _ rfl, (BX0.out.below hb hlBX0) 4 _ rfl⟩, ⟨(BX2.out.below hb hlBX2) 0 _ rfl, (BX2.out.below hb hlBX2) 1 _ rfl⟩⟩))
        have hks : (w4_.cell? ⟨w.heap.size, 0, none⟩ = some (.int .i64 x0.f0) ∧ w4_.cell? ⟨w.heap.size, 1, none⟩ = some (.int .i64 x0.f1) ∧ w4_.cell? ⟨w.heap.size, 2, none⟩ = some (.int .i64 x0.f2) ∧ w4_.cell? ⟨w.heap.size, 3, none⟩ = some (.int .i64 x0.f3) ∧ w4_.cell? ⟨w.heap.size, 4, none⟩ = some (.slice s0 x0.f4.length cap0)) ∧ (w4_.cell? ⟨(w.heap.size + 1), 0, none⟩ = some (.string e2.f0) ∧ w4_.cell? ⟨(w.heap.size + 1), 1, none⟩ = some (.int .i64 e2.f1)) := KS.out _ (Below.refl _ _)
        have FBX := Lib.hid (fun w' (hb : Below w4_.heap.size w4_ w') => (show Below w.heap.size w w' from FB.out.trans (hb.mono FN)))
        have HC := Lib.hid (show Below w4_.heap.size w4_ w4_.drew from (Below.refl _ _).drew)
        go_wp2
        go_region_held3 (fun w' => (w'.cell? ⟨w.heap.size, 0, none⟩ = some (.int .i64 x0.f0) ∧ w'.cell? ⟨w.heap.size, 1, none⟩ = some (.int .i64 x0.f1) ∧ w'.cell? ⟨w.heap.size, 2, none⟩ = some (.int .i64 x0.f2) ∧ w'.cell? ⟨w.heap.size, 3, none⟩ = some (.int .i64 x0.f3) ∧ w'.cell? ⟨w.heap.size, 4, none⟩ = some (.slice s0 x0.f4.length cap0)) ∧ (w'.cell? ⟨(w.heap.size + 1), 0, none⟩ = some (.string e2.f0) ∧ w'.cell? ⟨(w.heap.size + 1), 1, none⟩ = some (.int .i64 e2.f1)))
          (first | (with_reducible exact KS.out _ HC.out) | (with_reducible exact KS.out _ (HC.out.alloc HC.out.size _)) | (with_reducible exact KS.out _ (((((HC.out.setCell hEp _).setCell hEp _).setCell hEp _).setCell hEp _).setCell hEp _)) | go_keep)
          (first
            | (go_at_call 17; first | ((with_reducible refine (TO0.out _ (FBX.out _ HC.out)).mono ?_); rintro e wt0 ⟨gt0, rfl, hrowt0, hgt0, hbt0⟩; replace HC := Lib.hid (HC.out.trans (hbt0.mono HC.out.size)); (try (replace EA := Lib.hid (EA.out.below hbt0))); (try (replace R0 := Lib.hid (R0.out.sm (Sm.of_below hbt0) (by omega)))); have R0 := Lib.hid (hrowt0.sli hgt0)) | (have EA := Lib.hid (show MadeAt (w4_.alloc (.cells #[.int .i64 0, .int .i64 0, .int .i64 0, .int .i64 0, .slice none 0 0] 29)).drew w4_.heap.size (.cells #[.int .i64 0, .int .i64 0, .int .i64 0, .int .i64 0, .slice none 0 0] 29) from MadeAt.new w4_ (.cells #[.int .i64 0, .int .i64 0, .int .i64 0, .int .i64 0, .slice none 0 0] 29)); have hEp : w4_.heap.size ≤ w4_.heap.size := Nat.le_refl _; replace HC := Lib.hid (show Below w4_.heap.size w4_ (w4_.alloc (.cells #[.int .i64 0, .int .i64 0, .int .i64 0, .int .i64 0, .slice none 0 0] 29)).drew from ((Below.refl _ _).alloc (Nat.le_refl _) (.cells #[.int .i64 0, .int .i64 0, .int .i64 0, .int .i64 0, .slice none 0 0] 29)).drew); (try (replace R0 := Lib.hid (show SlSI _ _ (w4_.alloc (.cells #[.int .i64 0, .int .i64 0, .int .i64 0, .int .i64 0, .slice none 0 0] 29)).drew _ _ _ _ from R0.out.sm (Sm.alloc w4_.drew (.cells #[.int .i64 0, .int .i64 0, .int .i64 0, .int .i64 0, .slice none 0 0] 29)) (by omega)))); (with_reducible refine (TO0.out _ (FBX.out _ HC.out)).mono ?_); rintro e wt0 ⟨gt0, rfl, hrowt0, hgt0, hbt0⟩; replace HC := Lib.hid (HC.out.trans (hbt0.mono HC.out.size)); (try (replace EA := Lib.hid (EA.out.below hbt0))); (try (replace R0 := Lib.hid (R0.out.sm (Sm.of_below hbt0) (by omega)))); have R0 := Lib.hid (hrowt0.sli hgt0)) | (have EA := Lib.hid ((fun (W : World) (h : Below w4_.heap.size w4_ W) => MadeAt.new W (.cells #[.int .i64 0, .int .i64 0, .int .i64 0, .int .i64 0, .slice none 0 0] 29)) _ HC.out); have hEp := HC.out.size; replace HC := Lib.hid (HC.out.alloc HC.out.size (.cells #[.int .i64 0, .int .i64 0, .int .i64 0, .int .i64 0, .slice none 0 0] 29)); (try (replace R0 := Lib.hid (R0.out.sm (Sm.alloc _ (.cells #[.int .i64 0, .int .i64 0, .int .i64 0, .int .i64 0, .slice none 0 0] 29)) (by omega)))); (with_reducible refine (TO0.out _ (FBX.out _ HC.out)).mono ?_); rintro e wt0 ⟨gt0, rfl, hrowt0, hgt0, hbt0⟩; replace HC := Lib.hid (HC.out.trans (hbt0.mono HC.out.size)); (try (replace EA := Lib.hid (EA.out.below hbt0))); (try (replace R0 := Lib.hid (R0.out.sm (Sm.of_below hbt0) (by omega)))); have R0 := Lib.hid (hrowt0.sli hgt0)))
            | (go_at_call 33; first | ((with_reducible refine (TO2.out _).mono ?_); rintro e wt2 ⟨rfl, hbt2⟩; replace HC := Lib.hid (HC.out.trans (hbt2.mono HC.out.size)); (try (replace EA := Lib.hid (EA.out.below hbt2))); (try (replace R0 := Lib.hid (R0.out.sm (Sm.of_below hbt2) (by omega)))); skip) | (have EA := Lib.hid (show MadeAt (w4_.alloc (.cells #[.int .i64 0, .int .i64 0, .int .i64 0, .int .i64 0, .slice none 0 0] 29)).drew w4_.heap.size (.cells #[.int .i64 0, .int .i64 0, .int .i64 0, .int .i64 0, .slice none 0 0] 29) from MadeAt.new w4_ (.cells #[.int .i64 0, .int .i64 0, .int .i64 0, .int .i64 0, .slice none 0 0] 29)); have hEp : w4_.heap.size ≤ w4_.heap.size := Nat.le_refl _; replace HC := Lib.hid (show Below w4_.heap.size w4_ (w4_.alloc (.cells #[.int .i64 0, .int .i64 0, .int .i64 0, .int .i64 0, .slice none 0 0] 29)).drew from ((Below.refl _ _).alloc (Nat.le_refl _) (.cells #[.int .i64 0, .int .i64 0, .int .i64 0, .int .i64 0, .slice none 0 0] 29)).drew); (try (replace R0 := Lib.hid (show SlSI _ _ (w4_.alloc (.cells #[.int .i64 0, .int .i64 0, .int .i64 0, .int .i64 0, .slice none 0 0] 29)).drew _ _ _ _ from R0.out.sm (Sm.alloc w4_.drew (.cells #[.int .i64 0, .int .i64 0, .int .i64 0, .int .i64 0, .slice none 0 0] 29)) (by omega)))); (with_reducible refine (TO2.out _).mono ?_); rintro e wt2 ⟨rfl, hbt2⟩; replace HC := Lib.hid (HC.out.trans (hbt2.mono HC.out.size)); (try (replace EA := Lib.hid (EA.out.below hbt2))); (try (replace R0 := Lib.hid (R0.out.sm (Sm.of_below hbt2) (by omega)))); skip) | (have EA := Lib.hid ((fun (W : World) (h : Below w4_.heap.size w4_ W) => MadeAt.new W (.cells #[.int .i64 0, .int .i64 0, .int .i64 0, .int .i64 0, .slice none 0 0] 29)) _ HC.out); have hEp := HC.out.size; replace HC := Lib.hid (HC.out.alloc HC.out.size (.cells #[.int .i64 0, .int .i64 0, .int .i64 0, .int .i64 0, .slice none 0 0] 29)); (try (replace R0 := Lib.hid (R0.out.sm (Sm.alloc _ (.cells #[.int .i64 0, .int .i64 0, .int .i64 0, .int .i64 0, .slice none 0 0] 29)) (by omega)))); (with_reducible refine (TO2.out _).mono ?_); rintro e wt2 ⟨rfl, hbt2⟩; replace HC := Lib.hid (HC.out.trans (hbt2.mono HC.out.size)); (try (replace EA := Lib.hid (EA.out.below hbt2))); (try (replace R0 := Lib.hid (R0.out.sm (Sm.of_below hbt2) (by omega)))); skip))
            | (go_at_call 32; first | ((with_reducible refine (SP.out _ _ R0.out.sl).mono ?_); rintro e wk5 ⟨sk5, dk5, rfl, hsok5, hbk5⟩; have hbfk5 := HC.out.size; (try (have hEq := EA.out.lt)); replace HC := Lib.hid (HC.out.trans (hbk5.mono HC.out.size)); (try (replace EA := Lib.hid (EA.out.below hbk5))); (try (replace R0 := Lib.hid (R0.out.sm (Sm.of_below hbk5) (by omega)))); (try (obtain ⟨qa0, qb0⟩ := EA.out.at 0 rfl; obtain ⟨qa1, qb1⟩ := EA.out.at 1 rfl; obtain ⟨qa2, qb2⟩ := EA.out.at 2 rfl; obtain ⟨qa3, qb3⟩ := EA.out.at 3 rfl; obtain ⟨qa4, qb4⟩ := EA.out.at 4 rfl))) | (have EA := Lib.hid (show MadeAt (w4_.alloc (.cells #[.int .i64 0, .int .i64 0, .int .i64 0, .int .i64 0, .slice none 0 0] 29)).drew w4_.heap.size (.cells #[.int .i64 0, .int .i64 0, .int .i64 0, .int .i64 0, .slice none 0 0] 29) from MadeAt.new w4_ (.cells #[.int .i64 0, .int .i64 0, .int .i64 0, .int .i64 0, .slice none 0 0] 29)); have hEp : w4_.heap.size ≤ w4_.heap.size := Nat.le_refl _; replace HC := Lib.hid (show Below w4_.heap.size w4_ (w4_.alloc (.cells #[.int .i64 0, .int .i64 0, .int .i64 0, .int .i64 0, .slice none 0 0] 29)).drew from ((Below.refl _ _).alloc (Nat.le_refl _) (.cells #[.int .i64 0, .int .i64 0, .int .i64 0, .int .i64 0, .slice none 0 0] 29)).drew); (try (replace R0 := Lib.hid (show SlSI _ _ (w4_.alloc (.cells #[.int .i64 0, .int .i64 0, .int .i64 0, .int .i64 0, .slice none 0 0] 29)).drew _ _ _ _ from R0.out.sm (Sm.alloc w4_.drew (.cells #[.int .i64 0, .int .i64 0, .int .i64 0, .int .i64 0, .slice none 0 0] 29)) (by omega)))); (with_reducible refine (SP.out _ _ R0.out.sl).mono ?_); rintro e wk5 ⟨sk5, dk5, rfl, hsok5, hbk5⟩; have hbfk5 := HC.out.size; (try (have hEq := EA.out.lt)); replace HC := Lib.hid (HC.out.trans (hbk5.mono HC.out.size)); (try (replace EA := Lib.hid (EA.out.below hbk5))); (try (replace R0 := Lib.hid (R0.out.sm (Sm.of_below hbk5) (by omega)))); (try (obtain ⟨qa0, qb0⟩ := EA.out.at 0 rfl; obtain ⟨qa1, qb1⟩ := EA.out.at 1 rfl; obtain ⟨qa2, qb2⟩ := EA.out.at 2 rfl; obtain ⟨qa3, qb3⟩ := EA.out.at 3 rfl; obtain ⟨qa4, qb4⟩ := EA.out.at 4 rfl))) | (have EA := Lib.hid ((fun (W : World) (h : Below w4_.heap.size w4_ W) => MadeAt.new W (.cells #[.int .i64 0, .int .i64 0, .int .i64 0, .int .i64 0, .slice none 0 0] 29)) _ HC.out); have hEp := HC.out.size; replace HC := Lib.hid (HC.out.alloc HC.out.size (.cells #[.int .i64 0, .int .i64 0, .int .i64 0, .int .i64 0, .slice none 0 0] 29)); (try (replace R0 := Lib.hid (R0.out.sm (Sm.alloc _ (.cells #[.int .i64 0, .int .i64 0, .int .i64 0, .int .i64 0, .slice none 0 0] 29)) (by omega)))); (with_reducible refine (SP.out _ _ R0.out.sl).mono ?_); rintro e wk5 ⟨sk5, dk5, rfl, hsok5, hbk5⟩; have hbfk5 := HC.out.size; (try (have hEq := EA.out.lt)); replace HC := Lib.hid (HC.out.trans (hbk5.mono HC.out.size)); (try (replace EA := Lib.hid (EA.out.below hbk5))); (try (replace R0 := Lib.hid (R0.out.sm (Sm.of_below hbk5) (by omega)))); (try (obtain ⟨qa0, qb0⟩ := EA.out.at 0 rfl; obtain ⟨qa1, qb1⟩ := EA.out.at 1 rfl; obtain ⟨qa2, qb2⟩ := EA.out.at 2 rfl; obtain ⟨qa3, qb3⟩ := EA.out.at 3 rfl; obtain ⟨qa4, qb4⟩ := EA.out.at 4 rfl))))
            | fail)
        all_goals
          go_wp2_with fail
          go_meet
          case rel => first | (with_reducible exact Lib.hid ⟨rfl, OneIn.late hsok5 hbfk5 HC.out.size, HC.out.alloc HC.out.size _⟩) | (with_reducible exact Lib.hid ⟨rfl, OneIn.early5 hsok5 hEp hEq EA.out rfl _ rfl, (((((HC.out.setCell hEp _).setCell hEp _).setCell hEp _).setCell hEp _).setCell hEp _)⟩)
      obtain ⟨rfl, ⟨pS, sS, dS, BS_, ES_, rfl, hpS, hplS, hqS, hBS, hES, hCS, hRS⟩, hbcS⟩ := hcut.out
      clear hcut
      obtain ⟨wS_, hwS_⟩ : ∃ W, wc = W := ⟨_, rfl⟩
      rw [hwS_] at hplS hES hCS hRS hbcS ⊢
      clear hwS_ wc
      replace BX0 := Lib.hid (BX0.out.sm (Sm.of_below hbcS) (by omega))
      replace BX2 := Lib.hid (BX2.out.sm (Sm.of_below hbcS) (by omega))
      replace FB := Lib.hid (below_step FB.out FN hbcS)
      have hzS := hbcS.size
      replace FN := Nat.le_trans FN hzS
      have RS := Lib.hid hRS
      have CS := Lib.hid hCS
      clear hRS hCS hbcS
      have xBX00 := BX0.out 0 _ rfl
      have xBX01 := BX0.out 1 _ rfl
      have xBX02 := BX0.out 2 _ rfl
      have xBX03 := BX0.out 3 _ rfl
      have xBX04 := BX0.out 4 _ rfl
      go_wp2_with fail
      refine (TO0.out _ FB.out).mono ?_
      rintro e w6_ ⟨g6, rfl, hrow6, hg6, hb6⟩
      clear xBX00 xBX01 xBX02 xBX03 xBX04
      have hS := Sm.of_below hb6
      replace BX0 := Lib.hid (BX0.out.sm hS (by omega))
      replace BX2 := Lib.hid (BX2.out.sm hS (by omega))
      replace RS := Lib.hid (RS.out.sm hS (by omega))
      replace CS := Lib.hid (CS.out.sm hS (by omega))
      replace FB := Lib.hid (below_step FB.out FN hb6)
      have hzw6_ := hb6.size
      replace FN := Nat.le_trans FN hzw6_
      clear hS hb6
      have X0 := Lib.hid (hrow6.sli hg6)
      clear hrow6 hg6
      have hS := Sm.alloc w6_ (.cells #[.int .i64 x0.f0, .int .i64 x0.f1, .int .i64 x0.f2, .int .i64 x0.f3, .slice (some ⟨g6, 0, none⟩) x0.f4.length x0.f4.length] 29)
      replace BX0 := Lib.hid (BX0.out.sm hS (by omega))
      replace BX2 := Lib.hid (BX2.out.sm hS (by omega))
      replace RS := Lib.hid (RS.out.sm hS (by omega))
      replace CS := Lib.hid (CS.out.sm hS (by omega))
      replace X0 := Lib.hid (X0.out.sm hS (by omega))
      have CX0 := Lib.hid (BoxAt.new w6_ #[.int .i64 x0.f0, .int .i64 x0.f1, .int .i64 x0.f2, .int .i64 x0.f3, .slice (some ⟨g6, 0, none⟩) x0.f4.length x0.f4.length] 29 w6_.heap.size rfl)
      replace FB := Lib.hid (below_new FB.out FN (.cells #[.int .i64 x0.f0, .int .i64 x0.f1, .int .i64 x0.f2, .int .i64 x0.f3, .slice (some ⟨g6, 0, none⟩) x0.f4.length x0.f4.length] 29))
      have hq7 : (w6_.alloc (.cells #[.int .i64 x0.f0, .int .i64 x0.f1, .int .i64 x0.f2, .int .i64 x0.f3, .slice (some ⟨g6, 0, none⟩) x0.f4.length x0.f4.length] 29)).heap.size = w6_.heap.size + 1 := by simp
      replace FN : w.heap.size ≤ (w6_.alloc (.cells #[.int .i64 x0.f0, .int .i64 x0.f1, .int .i64 x0.f2, .int .i64 x0.f3, .slice (some ⟨g6, 0, none⟩) x0.f4.length x0.f4.length] 29)).heap.size := by omega
      clear hS
      go_upto_region 10 with (fail)
      generalize hgW : (w6_.alloc (.cells #[.int .i64 x0.f0, .int .i64 x0.f1, .int .i64 x0.f2, .int .i64 x0.f3, .slice (some ⟨g6, 0, none⟩) x0.f4.length x0.f4.length] 29)) = wXG at *
      have hqaG := Nat.le_of_eq hq7
      have hqbG := Nat.le_of_eq hq7.symm
      clear hq7 hgW
      go_cut [11, 12] (fun v11 v12 wx => Hid (v12 = .int .i64 r1 ∧ OneIn rowSector 41 (fun s d => #[.int .i64 rr.f0, .int .i64 rr.f1, .int .i64 rr.f2, .int .i64 rr.f3, .slice s rr.f4.length d]) rr.f4 wXG wx v11 ∧ Below wXG.heap.size wXG wx))
      case first =>
        have hlCX0 := CX0.out.lt (by simp)
        have hlBX2 := BX2.out.lt (by simp)
        have xCX00 := CX0.out 0 _ rfl
        have xCX01 := CX0.out 1 _ rfl
        have xCX02 := CX0.out 2 _ rfl
        have xCX03 := CX0.out 3 _ rfl
        have xCX04 := CX0.out 4 _ rfl
        have xBX20 := BX2.out 0 _ rfl
        have xBX21 := BX2.out 1 _ rfl
        have KS := Lib.hid (fun w' (hb : Below wXG.heap.size wXG w') => (show (w'.cell? ⟨w6_.heap.size, 0, none⟩ = some (.int .i64 x0.f0) ∧ w'.cell? ⟨w6_.heap.size, 1, none⟩ = some (.int .i64 x0.f1) ∧ w'.cell? ⟨w6_.heap.size, 2, none⟩ = some (.int .i64 x0.f2) ∧ w'.cell? ⟨w6_.heap.size, 3, none⟩ = some (.int .i64 x0.f3) ∧ w'.cell? ⟨w6_.heap.size, 4, none⟩ = some (.slice (some ⟨g6, 0, none⟩) x0.f4.length x0.f4.length)) ∧ (w'.cell? ⟨(w.heap.size + 1), 0, none⟩ = some (.string e2.f0) ∧ w'.cell? ⟨(w.heap.size + 1), 1, none⟩ = some (.int .i64 e2.f1)) from ⟨⟨(CX0.out.below hb hlCX0) 0 _ rfl, (CX0.out.below hb hlCX0) 1 _ rfl, (CX0.out.below hb hlCX0) 2 _ rfl, (CX0.out.below hb hlCX0) 3 _ rfl, (CX0.out.below hb hlCX0) 4 _ rfl⟩, ⟨(BX2.out.below hb hlBX2) 0 _ rfl, (BX2.out.below hb hlBX2) 1 _ rfl⟩⟩))
        have hks : (wXG.cell? ⟨w6_.heap.size, 0, none⟩ = some (.int .i64 x0.f0) ∧ wXG.cell? ⟨w6_.heap.size, 1, none⟩ = some (.int .i64 x0.f1) ∧ wXG.cell? ⟨w6_.heap.size, 2, none⟩ = some (.int .i64 x0.f2) ∧ wXG.cell? ⟨w6_.heap.size, 3, none⟩ = some (.int .i64 x0.f3) ∧ wXG.cell? ⟨w6_.heap.size, 4, none⟩ = some (.slice (some ⟨g6, 0, none⟩) x0.f4.length x0.f4.length)) ∧ (wXG.cell? ⟨(w.heap.size + 1), 0, none⟩ = some (.string e2.f0) ∧ wXG.cell? ⟨(w.heap.size + 1), 1, none⟩ = some (.int .i64 e2.f1)) := KS.out _ (Below.refl _ _)
        have FBX := Lib.hid (fun w' (hb : Below wXG.heap.size wXG w') => (show Below w.heap.size w w' from FB.out.trans (hb.mono FN)))
        have HC := Lib.hid (show Below wXG.heap.size wXG wXG.drew from (Below.refl _ _).drew)
        replace RS := Lib.hid RS.out.drew
        replace X0 := Lib.hid X0.out.drew
        go_wp2
        go_region_held3 (fun w' => (w'.cell? ⟨w6_.heap.size, 0, none⟩ = some (.int .i64 x0.f0) ∧ w'.cell? ⟨w6_.heap.size, 1, none⟩ = some (.int .i64 x0.f1) ∧ w'.cell? ⟨w6_.heap.size, 2, none⟩ = some (.int .i64 x0.f2) ∧ w'.cell? ⟨w6_.heap.size, 3, none⟩ = some (.int .i64 x0.f3) ∧ w'.cell? ⟨w6_.heap.size, 4, none⟩ = some (.slice (some ⟨g6, 0, none⟩) x0.f4.length x0.f4.length)) ∧ (w'.cell? ⟨(w.heap.size + 1), 0, none⟩ = some (.string e2.f0) ∧ w'.cell? ⟨(w.heap.size + 1), 1, none⟩ = some (.int .i64 e2.f1)))
          (first | (with_reducible exact KS.out _ HC.out) | (with_reducible exact KS.out _ (HC.out.alloc HC.out.size _)) | (with_reducible exact KS.out _ (((((HC.out.setCell hEp _).setCell hEp _).setCell hEp _).setCell hEp _).setCell hEp _)) | go_keep)
          (first
            | (go_at_call 33; first | ((with_reducible refine (TO2.out _).mono ?_); rintro e wt2 ⟨rfl, hbt2⟩; replace HC := Lib.hid (HC.out.trans (hbt2.mono HC.out.size)); (try (replace EA := Lib.hid (EA.out.below hbt2))); (try (replace RS := Lib.hid (RS.out.sm (Sm.of_below hbt2) (by omega)))); (try (replace X0 := Lib.hid (X0.out.sm (Sm.of_below hbt2) (by omega)))); skip) | (have EA := Lib.hid (show MadeAt (wXG.alloc (.cells #[.int .i64 0, .int .i64 0, .int .i64 0, .int .i64 0, .slice none 0 0] 29)).drew wXG.heap.size (.cells #[.int .i64 0, .int .i64 0, .int .i64 0, .int .i64 0, .slice none 0 0] 29) from MadeAt.new wXG (.cells #[.int .i64 0, .int .i64 0, .int .i64 0, .int .i64 0, .slice none 0 0] 29)); have hEp : wXG.heap.size ≤ wXG.heap.size := Nat.le_refl _; replace HC := Lib.hid (show Below wXG.heap.size wXG (wXG.alloc (.cells #[.int .i64 0, .int .i64 0, .int .i64 0, .int .i64 0, .slice none 0 0] 29)).drew from ((Below.refl _ _).alloc (Nat.le_refl _) (.cells #[.int .i64 0, .int .i64 0, .int .i64 0, .int .i64 0, .slice none 0 0] 29)).drew); (try (replace RS := Lib.hid (show SlSI _ _ (wXG.alloc (.cells #[.int .i64 0, .int .i64 0, .int .i64 0, .int .i64 0, .slice none 0 0] 29)).drew _ _ _ _ from RS.out.sm (Sm.alloc wXG.drew (.cells #[.int .i64 0, .int .i64 0, .int .i64 0, .int .i64 0, .slice none 0 0] 29)) (by omega)))); (try (replace X0 := Lib.hid (show SlSI _ _ (wXG.alloc (.cells #[.int .i64 0, .int .i64 0, .int .i64 0, .int .i64 0, .slice none 0 0] 29)).drew _ _ _ _ from X0.out.sm (Sm.alloc wXG.drew (.cells #[.int .i64 0, .int .i64 0, .int .i64 0, .int .i64 0, .slice none 0 0] 29)) (by omega)))); (with_reducible refine (TO2.out _).mono ?_); rintro e wt2 ⟨rfl, hbt2⟩; replace HC := Lib.hid (HC.out.trans (hbt2.mono HC.out.size)); (try (replace EA := Lib.hid (EA.out.below hbt2))); (try (replace RS := Lib.hid (RS.out.sm (Sm.of_below hbt2) (by omega)))); (try (replace X0 := Lib.hid (X0.out.sm (Sm.of_below hbt2) (by omega)))); skip) | (have EA := Lib.hid ((fun (W : World) (h : Below wXG.heap.size wXG W) => MadeAt.new W (.cells #[.int .i64 0, .int .i64 0, .int .i64 0, .int .i64 0, .slice none 0 0] 29)) _ HC.out); have hEp := HC.out.size; replace HC := Lib.hid (HC.out.alloc HC.out.size (.cells #[.int .i64 0, .int .i64 0, .int .i64 0, .int .i64 0, .slice none 0 0] 29)); (try (replace RS := Lib.hid (RS.out.sm (Sm.alloc _ (.cells #[.int .i64 0, .int .i64 0, .int .i64 0, .int .i64 0, .slice none 0 0] 29)) (by omega)))); (try (replace X0 := Lib.hid (X0.out.sm (Sm.alloc _ (.cells #[.int .i64 0, .int .i64 0, .int .i64 0, .int .i64 0, .slice none 0 0] 29)) (by omega)))); (with_reducible refine (TO2.out _).mono ?_); rintro e wt2 ⟨rfl, hbt2⟩; replace HC := Lib.hid (HC.out.trans (hbt2.mono HC.out.size)); (try (replace EA := Lib.hid (EA.out.below hbt2))); (try (replace RS := Lib.hid (RS.out.sm (Sm.of_below hbt2) (by omega)))); (try (replace X0 := Lib.hid (X0.out.sm (Sm.of_below hbt2) (by omega)))); skip))
            | (go_at_call 34; first | ((with_reducible refine (IM.out _ _ X0.out.sl).mono ?_); rintro e wk8 ⟨sk8, dk8, rfl, hsok8, hbk8⟩; have hbfk8 := HC.out.size; (try (have hEq := EA.out.lt)); replace HC := Lib.hid (HC.out.trans (hbk8.mono HC.out.size)); (try (replace EA := Lib.hid (EA.out.below hbk8))); (try (replace RS := Lib.hid (RS.out.sm (Sm.of_below hbk8) (by omega)))); (try (replace X0 := Lib.hid (X0.out.sm (Sm.of_below hbk8) (by omega)))); (try (obtain ⟨qa0, qb0⟩ := EA.out.at 0 rfl; obtain ⟨qa1, qb1⟩ := EA.out.at 1 rfl; obtain ⟨qa2, qb2⟩ := EA.out.at 2 rfl; obtain ⟨qa3, qb3⟩ := EA.out.at 3 rfl; obtain ⟨qa4, qb4⟩ := EA.out.at 4 rfl))) | (have EA := Lib.hid (show MadeAt (wXG.alloc (.cells #[.int .i64 0, .int .i64 0, .int .i64 0, .int .i64 0, .slice none 0 0] 29)).drew wXG.heap.size (.cells #[.int .i64 0, .int .i64 0, .int .i64 0, .int .i64 0, .slice none 0 0] 29) from MadeAt.new wXG (.cells #[.int .i64 0, .int .i64 0, .int .i64 0, .int .i64 0, .slice none 0 0] 29)); have hEp : wXG.heap.size ≤ wXG.heap.size := Nat.le_refl _; replace HC := Lib.hid (show Below wXG.heap.size wXG (wXG.alloc (.cells #[.int .i64 0, .int .i64 0, .int .i64 0, .int .i64 0, .slice none 0 0] 29)).drew from ((Below.refl _ _).alloc (Nat.le_refl _) (.cells #[.int .i64 0, .int .i64 0, .int .i64 0, .int .i64 0, .slice none 0 0] 29)).drew); (try (replace RS := Lib.hid (show SlSI _ _ (wXG.alloc (.cells #[.int .i64 0, .int .i64 0, .int .i64 0, .int .i64 0, .slice none 0 0] 29)).drew _ _ _ _ from RS.out.sm (Sm.alloc wXG.drew (.cells #[.int .i64 0, .int .i64 0, .int .i64 0, .int .i64 0, .slice none 0 0] 29)) (by omega)))); (try (replace X0 := Lib.hid (show SlSI _ _ (wXG.alloc (.cells #[.int .i64 0, .int .i64 0, .int .i64 0, .int .i64 0, .slice none 0 0] 29)).drew _ _ _ _ from X0.out.sm (Sm.alloc wXG.drew (.cells #[.int .i64 0, .int .i64 0, .int .i64 0, .int .i64 0, .slice none 0 0] 29)) (by omega)))); (with_reducible refine (IM.out _ _ X0.out.sl).mono ?_); rintro e wk8 ⟨sk8, dk8, rfl, hsok8, hbk8⟩; have hbfk8 := HC.out.size; (try (have hEq := EA.out.lt)); replace HC := Lib.hid (HC.out.trans (hbk8.mono HC.out.size)); (try (replace EA := Lib.hid (EA.out.below hbk8))); (try (replace RS := Lib.hid (RS.out.sm (Sm.of_below hbk8) (by omega)))); (try (replace X0 := Lib.hid (X0.out.sm (Sm.of_below hbk8) (by omega)))); (try (obtain ⟨qa0, qb0⟩ := EA.out.at 0 rfl; obtain ⟨qa1, qb1⟩ := EA.out.at 1 rfl; obtain ⟨qa2, qb2⟩ := EA.out.at 2 rfl; obtain ⟨qa3, qb3⟩ := EA.out.at 3 rfl; obtain ⟨qa4, qb4⟩ := EA.out.at 4 rfl))) | (have EA := Lib.hid ((fun (W : World) (h : Below wXG.heap.size wXG W) => MadeAt.new W (.cells #[.int .i64 0, .int .i64 0, .int .i64 0, .int .i64 0, .slice none 0 0] 29)) _ HC.out); have hEp := HC.out.size; replace HC := Lib.hid (HC.out.alloc HC.out.size (.cells #[.int .i64 0, .int .i64 0, .int .i64 0, .int .i64 0, .slice none 0 0] 29)); (try (replace RS := Lib.hid (RS.out.sm (Sm.alloc _ (.cells #[.int .i64 0, .int .i64 0, .int .i64 0, .int .i64 0, .slice none 0 0] 29)) (by omega)))); (try (replace X0 := Lib.hid (X0.out.sm (Sm.alloc _ (.cells #[.int .i64 0, .int .i64 0, .int .i64 0, .int .i64 0, .slice none 0 0] 29)) (by omega)))); (with_reducible refine (IM.out _ _ X0.out.sl).mono ?_); rintro e wk8 ⟨sk8, dk8, rfl, hsok8, hbk8⟩; have hbfk8 := HC.out.size; (try (have hEq := EA.out.lt)); replace HC := Lib.hid (HC.out.trans (hbk8.mono HC.out.size)); (try (replace EA := Lib.hid (EA.out.below hbk8))); (try (replace RS := Lib.hid (RS.out.sm (Sm.of_below hbk8) (by omega)))); (try (replace X0 := Lib.hid (X0.out.sm (Sm.of_below hbk8) (by omega)))); (try (obtain ⟨qa0, qb0⟩ := EA.out.at 0 rfl; obtain ⟨qa1, qb1⟩ := EA.out.at 1 rfl; obtain ⟨qa2, qb2⟩ := EA.out.at 2 rfl; obtain ⟨qa3, qb3⟩ := EA.out.at 3 rfl; obtain ⟨qa4, qb4⟩ := EA.out.at 4 rfl))))
            | fail)
        all_goals
          go_wp2_with fail
          go_meet
          case rel => first | (with_reducible exact Lib.hid ⟨rfl, OneIn.late hsok8 hbfk8 HC.out.size, HC.out.alloc HC.out.size _⟩) | (with_reducible exact Lib.hid ⟨rfl, OneIn.early5 hsok8 hEp hEq EA.out rfl _ rfl, (((((HC.out.setCell hEp _).setCell hEp _).setCell hEp _).setCell hEp _).setCell hEp _)⟩)
      obtain ⟨rfl, ⟨pG, sG, dG, BG_, EG_, rfl, hpG, hplG, hqG, hBG, hEG, hCG, hRG⟩, hbcG⟩ := hcut.out
      clear hcut
      obtain ⟨wG_, hwG_⟩ : ∃ W, wc = W := ⟨_, rfl⟩
      rw [hwG_] at hplG hEG hCG hRG hbcG ⊢
      clear hwG_ wc
      replace BX0 := Lib.hid (BX0.out.sm (Sm.of_below hbcG) (by omega))
      replace BX2 := Lib.hid (BX2.out.sm (Sm.of_below hbcG) (by omega))
      replace RS := Lib.hid (RS.out.sm (Sm.of_below hbcG) (by omega))
      replace CS := Lib.hid (CS.out.sm (Sm.of_below hbcG) (by omega))
      replace X0 := Lib.hid (X0.out.sm (Sm.of_below hbcG) (by omega))
      replace CX0 := Lib.hid (CX0.out.sm (Sm.of_below hbcG) (by omega))
      replace FB := Lib.hid (below_step FB.out FN hbcG)
      have hzG := hbcG.size
      replace FN := Nat.le_trans FN hzG
      have RG := Lib.hid hRG
      have CG := Lib.hid hCG
      clear hRG hCG hbcG
      have xCG0 := CG.out 0 _ rfl
      have xCG1 := CG.out 1 _ rfl
      have xCG2 := CG.out 2 _ rfl
      have xCG3 := CG.out 3 _ rfl
      have xCG4 := CG.out 4 _ rfl
      have xCS0 := CS.out 0 _ rfl
      have xCS1 := CS.out 1 _ rfl
      have xCS2 := CS.out 2 _ rfl
      have xCS3 := CS.out 3 _ rfl
      have xCS4 := CS.out 4 _ rfl
      go_wp2_with fail
      refine (EQ.out _ _ _ _ _ RG.out.sl RS.out.sl).mono ?_
      rintro e w9_ ⟨rfl, hb9⟩
      clear xCG0 xCG1 xCG2 xCG3 xCG4
      clear xCS0 xCS1 xCS2 xCS3 xCS4
      have hS := Sm.of_below hb9
      replace BX0 := Lib.hid (BX0.out.sm hS (by omega))
      replace BX2 := Lib.hid (BX2.out.sm hS (by omega))
      replace RS := Lib.hid (RS.out.sm hS (by omega))
      replace CS := Lib.hid (CS.out.sm hS (by omega))
      replace X0 := Lib.hid (X0.out.sm hS (by omega))
      replace CX0 := Lib.hid (CX0.out.sm hS (by omega))
      replace RG := Lib.hid (RG.out.sm hS (by omega))
      replace CG := Lib.hid (CG.out.sm hS (by omega))
      replace FB := Lib.hid (below_step FB.out FN hb9)
      have hzw9_ := hb9.size
      replace FN := Nat.le_trans FN hzw9_
      clear hS hb9
      have hlCX0 := CX0.out.lt (by simp)
      have hlBX0 := BX0.out.lt (by simp)
      have xCX00 := CX0.out 0 _ rfl
      have xCX01 := CX0.out 1 _ rfl
      have xCX02 := CX0.out 2 _ rfl
      have xCX03 := CX0.out 3 _ rfl
      have xCX04 := CX0.out 4 _ rfl
      have xBX00 := BX0.out 0 _ rfl
      have xBX01 := BX0.out 1 _ rfl
      have xBX02 := BX0.out 2 _ rfl
      have xBX03 := BX0.out 3 _ rfl
      have xBX04 := BX0.out 4 _ rfl
      have KS := Lib.hid (fun w' (hb : Below w9_.heap.size w9_ w') => (show (w'.cell? ⟨w6_.heap.size, 0, none⟩ = some (.int .i64 x0.f0) ∧ w'.cell? ⟨w6_.heap.size, 1, none⟩ = some (.int .i64 x0.f1) ∧ w'.cell? ⟨w6_.heap.size, 2, none⟩ = some (.int .i64 x0.f2) ∧ w'.cell? ⟨w6_.heap.size, 3, none⟩ = some (.int .i64 x0.f3) ∧ w'.cell? ⟨w6_.heap.size, 4, none⟩ = some (.slice (some ⟨g6, 0, none⟩) x0.f4.length x0.f4.length)) ∧ (w'.cell? ⟨w.heap.size, 0, none⟩ = some (.int .i64 x0.f0) ∧ w'.cell? ⟨w.heap.size, 1, none⟩ = some (.int .i64 x0.f1) ∧ w'.cell? ⟨w.heap.size, 2, none⟩ = some (.int .i64 x0.f2) ∧ w'.cell? ⟨w.heap.size, 3, none⟩ = some (.int .i64 x0.f3) ∧ w'.cell? ⟨w.heap.size, 4, none⟩ = some (.slice s0 x0.f4.length cap0)) from ⟨⟨(CX0.out.below hb hlCX0) 0 _ rfl, (CX0.out.below hb hlCX0) 1 _ rfl, (CX0.out.below hb hlCX0) 2 _ rfl, (CX0.out.below hb hlCX0) 3 _ rfl, (CX0.out.below hb hlCX0) 4 _ rfl⟩, ⟨(BX0.out.below hb hlBX0) 0 _ rfl, (BX0.out.below hb hlBX0) 1 _ rfl, (BX0.out.below hb hlBX0) 2 _ rfl, (BX0.out.below hb hlBX0) 3 _ rfl, (BX0.out.below hb hlBX0) 4 _ rfl⟩⟩))
      have hks : (w9_.cell? ⟨w6_.heap.size, 0, none⟩ = some (.int .i64 x0.f0) ∧ w9_.cell? ⟨w6_.heap.size, 1, none⟩ = some (.int .i64 x0.f1) ∧ w9_.cell? ⟨w6_.heap.size, 2, none⟩ = some (.int .i64 x0.f2) ∧ w9_.cell? ⟨w6_.heap.size, 3, none⟩ = some (.int .i64 x0.f3) ∧ w9_.cell? ⟨w6_.heap.size, 4, none⟩ = some (.slice (some ⟨g6, 0, none⟩) x0.f4.length x0.f4.length)) ∧ (w9_.cell? ⟨w.heap.size, 0, none⟩ = some (.int .i64 x0.f0) ∧ w9_.cell? ⟨w.heap.size, 1, none⟩ = some (.int .i64 x0.f1) ∧ w9_.cell? ⟨w.heap.size, 2, none⟩ = some (.int .i64 x0.f2) ∧ w9_.cell? ⟨w.heap.size, 3, none⟩ = some (.int .i64 x0.f3) ∧ w9_.cell? ⟨w.heap.size, 4, none⟩ = some (.slice s0 x0.f4.length cap0)) := KS.out _ (Below.refl _ _)
      have FBX := Lib.hid (fun w' (hb : Below w9_.heap.size w9_ w') => (show Below w.heap.size w w' from FB.out.trans (hb.mono FN)))
      have HC := Lib.hid (show Below w9_.heap.size w9_ w9_.drew from (Below.refl _ _).drew)
      replace RS := Lib.hid RS.out.drew
      replace X0 := Lib.hid X0.out.drew
      replace RG := Lib.hid RG.out.drew
      go_wp2
      go_region_held3 (fun w' => (w'.cell? ⟨w6_.heap.size, 0, none⟩ = some (.int .i64 x0.f0) ∧ w'.cell? ⟨w6_.heap.size, 1, none⟩ = some (.int .i64 x0.f1) ∧ w'.cell? ⟨w6_.heap.size, 2, none⟩ = some (.int .i64 x0.f2) ∧ w'.cell? ⟨w6_.heap.size, 3, none⟩ = some (.int .i64 x0.f3) ∧ w'.cell? ⟨w6_.heap.size, 4, none⟩ = some (.slice (some ⟨g6, 0, none⟩) x0.f4.length x0.f4.length)) ∧ (w'.cell? ⟨w.heap.size, 0, none⟩ = some (.int .i64 x0.f0) ∧ w'.cell? ⟨w.heap.size, 1, none⟩ = some (.int .i64 x0.f1) ∧ w'.cell? ⟨w.heap.size, 2, none⟩ = some (.int .i64 x0.f2) ∧ w'.cell? ⟨w.heap.size, 3, none⟩ = some (.int .i64 x0.f3) ∧ w'.cell? ⟨w.heap.size, 4, none⟩ = some (.slice s0 x0.f4.length cap0)))
        (first | (with_reducible exact KS.out _ HC.out) | (with_reducible exact KS.out _ (HC.out.alloc HC.out.size _)) | go_keep)
        (first
          | (go_at_call 17; ((with_reducible refine (TO0.out _ (FBX.out _ HC.out)).mono ?_); rintro e wt0 ⟨gt0, rfl, hrowt0, hgt0, hbt0⟩; (try (replace RS := Lib.hid (RS.out.sm (Sm.of_below hbt0) (by omega)))); (try (replace X0 := Lib.hid (X0.out.sm (Sm.of_below hbt0) (by omega)))); (try (replace RG := Lib.hid (RG.out.sm (Sm.of_below hbt0) (by omega)))); (try (replace Y0 := Lib.hid (Y0.out.sm (Sm.of_below hbt0) (by omega)))); replace HC := Lib.hid (HC.out.trans (hbt0.mono HC.out.size)); have Y0 := Lib.hid (hrowt0.sli hgt0)))
          | (go_at_call 19; ((with_reducible refine (EX0.out _ _ _ _ _ X0.out.sl Y0.out.sl).mono ?_); rintro e w10_ ⟨rfl, hb10⟩; have hbf10 := HC.out.size; (try (replace RS := Lib.hid (RS.out.sm (Sm.of_below hb10) (by omega)))); (try (replace X0 := Lib.hid (X0.out.sm (Sm.of_below hb10) (by omega)))); (try (replace RG := Lib.hid (RG.out.sm (Sm.of_below hb10) (by omega)))); (try (replace Y0 := Lib.hid (Y0.out.sm (Sm.of_below hb10) (by omega)))); replace HC := Lib.hid (HC.out.trans (hb10.mono HC.out.size)); skip))
          | fail)
      all_goals
        replace CX0 := Lib.hid (CX0.out.below HC.out hlCX0)
        replace BX0 := Lib.hid (BX0.out.below HC.out hlBX0)
        replace BX2 := Lib.hid (BX2.out.sm (Sm.of_below HC.out) (by omega))
        replace CS := Lib.hid (CS.out.sm (Sm.of_below HC.out) (by omega))
        replace CG := Lib.hid (CG.out.sm (Sm.of_below HC.out) (by omega))
        replace FB := Lib.hid (FBX.out _ HC.out)
        have hzz10 := HC.out.size
        replace FN := Nat.le_trans FN hzz10
        clear hks KS HC FBX hlCX0 hlBX0
        clear hbf10
        clear xCX00 xCX01 xCX02 xCX03 xCX04
        clear xBX00 xBX01 xBX02 xBX03 xBX04
        clear hrowt0 hgt0
        clear hbt0
        clear Y0
        have xCX00 := CX0.out 0 _ rfl
        have xCX01 := CX0.out 1 _ rfl
        have xCX02 := CX0.out 2 _ rfl
        have xCX03 := CX0.out 3 _ rfl
        have xCX04 := CX0.out 4 _ rfl
        go_wp2_with fail
        refine (MX0.out _ wS_.heap.size w6_.heap.size _ (by omega) (X0.out.mono (by omega) (by omega))).mono ?_
        rintro e w11_ ⟨rfl, hmr11, hmb11, hms11⟩
        clear xCX00 xCX01 xCX02 xCX03 xCX04
        clear X0
        replace BX0 := Lib.hid (BX0.out.sm hms11 (by omega))
        replace BX2 := Lib.hid (BX2.out.sm hms11 (by omega))
        replace RS := Lib.hid (RS.out.sm hms11 (by omega))
        replace CS := Lib.hid (CS.out.sm hms11 (by omega))
        replace CX0 := Lib.hid (CX0.out.sm hms11 (by omega))
        replace RG := Lib.hid (RG.out.sm hms11 (by omega))
        replace CG := Lib.hid (CG.out.sm hms11 (by omega))
        replace FB := Lib.hid (FB.out.trans (hmb11 _ (by omega) FN))
        have hzm11 := hms11.size
        replace FN := Nat.le_trans FN hzm11
        clear hmb11 hms11 hmr11
        have xCG0 := CG.out 0 _ rfl
        have xCG1 := CG.out 1 _ rfl
        have xCG2 := CG.out 2 _ rfl
        have xCG3 := CG.out 3 _ rfl
        have xCG4 := CG.out 4 _ rfl
        have xCS0 := CS.out 0 _ rfl
        have xCS1 := CS.out 1 _ rfl
        have xCS2 := CS.out 2 _ rfl
        have xCS3 := CS.out 3 _ rfl
        have xCS4 := CS.out 4 _ rfl
        go_wp2_with fail
        refine (EQ.out _ _ _ _ _ RG.out.sl RS.out.sl).mono ?_
        rintro e w12_ ⟨rfl, hb12⟩
        clear xCG0 xCG1 xCG2 xCG3 xCG4
        clear xCS0 xCS1 xCS2 xCS3 xCS4
        have hS := Sm.of_below hb12
        replace BX0 := Lib.hid (BX0.out.sm hS (by omega))
        replace BX2 := Lib.hid (BX2.out.sm hS (by omega))
        replace RS := Lib.hid (RS.out.sm hS (by omega))
        replace CS := Lib.hid (CS.out.sm hS (by omega))
        replace CX0 := Lib.hid (CX0.out.sm hS (by omega))
        replace RG := Lib.hid (RG.out.sm hS (by omega))
        replace CG := Lib.hid (CG.out.sm hS (by omega))
        replace FB := Lib.hid (below_step FB.out FN hb12)
        have hzw12_ := hb12.size
        replace FN := Nat.le_trans FN hzw12_
        clear hS hb12
        have xCG0 := CG.out 0 _ rfl
        have xCG1 := CG.out 1 _ rfl
        have xCG2 := CG.out 2 _ rfl
        have xCG3 := CG.out 3 _ rfl
        have xCG4 := CG.out 4 _ rfl
        go_wp2_with fail
        refine (MK.out _ _ BG_ EG_ _ (by omega) RG.out).mono ?_
        rintro e w13_ ⟨rfl, hmr13, hmb13, hms13⟩
        clear xCG0 xCG1 xCG2 xCG3 xCG4
        clear RG
        replace BX0 := Lib.hid (BX0.out.sm hms13 (by omega))
        replace BX2 := Lib.hid (BX2.out.sm hms13 (by omega))
        replace RS := Lib.hid (RS.out.sm hms13 (by omega))
        replace CS := Lib.hid (CS.out.sm hms13 (by omega))
        replace CX0 := Lib.hid (CX0.out.sm hms13 (by omega))
        replace CG := Lib.hid (CG.out.sm hms13 (by omega))
        replace FB := Lib.hid (FB.out.trans (hmb13 _ (by omega) FN))
        have hzm13 := hms13.size
        replace FN := Nat.le_trans FN hzm13
        have RM := Lib.hid hmr13
        clear hmb13 hms13 hmr13
        have xCG0 := CG.out 0 _ rfl
        have xCG1 := CG.out 1 _ rfl
        have xCG2 := CG.out 2 _ rfl
        have xCG3 := CG.out 3 _ rfl
        have xCG4 := CG.out 4 _ rfl
        go_wp2_with fail
        refine (HD.out _ _ _ RM.out.sl).mono ?_
        rintro e w14_ ⟨rfl, hb14⟩
        clear xCG0 xCG1 xCG2 xCG3 xCG4
        have hS := Sm.of_below hb14
        replace BX0 := Lib.hid (BX0.out.sm hS (by omega))
        replace BX2 := Lib.hid (BX2.out.sm hS (by omega))
        replace RS := Lib.hid (RS.out.sm hS (by omega))
        replace CS := Lib.hid (CS.out.sm hS (by omega))
        replace CX0 := Lib.hid (CX0.out.sm hS (by omega))
        replace CG := Lib.hid (CG.out.sm hS (by omega))
        replace RM := Lib.hid (RM.out.sm hS (by omega))
        replace FB := Lib.hid (below_step FB.out FN hb14)
        have hzw14_ := hb14.size
        replace FN := Nat.le_trans FN hzw14_
        clear hS hb14
        go_upto_region 27 with (fail)
        go_cut [16, 17] (fun v16 v17 wx => Hid (v17 = .int .i64 r1 ∧ OneIn rowSector 41 (fun s d => #[.int .i64 rr.f0, .int .i64 rr.f1, .int .i64 rr.f2, .int .i64 rr.f3, .slice s rr.f4.length d]) rr.f4 w14_ wx v16 ∧ Below w14_.heap.size w14_ wx))
        case first =>
          have hlBX0 := BX0.out.lt (by simp)
          have hlBX2 := BX2.out.lt (by simp)
          have xBX00 := BX0.out 0 _ rfl
          have xBX01 := BX0.out 1 _ rfl
          have xBX02 := BX0.out 2 _ rfl
          have xBX03 := BX0.out 3 _ rfl
          have xBX04 := BX0.out 4 _ rfl
          have xBX20 := BX2.out 0 _ rfl
          have xBX21 := BX2.out 1 _ rfl
          have KS := Lib.hid (fun w' (hb : Below w14_.heap.size w14_ w') => (show (w'.cell? ⟨w.heap.size, 0, none⟩ = some (.int .i64 x0.f0) ∧ w'.cell? ⟨w.heap.size, 1, none⟩ = some (.int .i64 x0.f1) ∧ w'.cell? ⟨w.heap.size, 2, none⟩ = some (.int .i64 x0.f2) ∧ w'.cell? ⟨w.heap.size, 3, none⟩ = some (.int .i64 x0.f3) ∧ w'.cell? ⟨w.heap.size, 4, none⟩ = some (.slice s0 x0.f4.length cap0)) ∧ (w'.cell? ⟨(w.heap.size + 1), 0, none⟩ = some (.string e2.f0) ∧ w'.cell? ⟨(w.heap.size + 1), 1, none⟩ = some (.int .i64 e2.f1)) from ⟨⟨(BX0.out.below hb hlBX0) 0 _ rfl, (BX0.out.below hb hlBX0) 1 _ rfl, (BX0.out.below hb hlBX0) 2 _ rfl, (BX0.out.below hb hlBX0) 3 _ rfl, (BX0.out.below hb hlBX0) 4 _ rfl⟩, ⟨(BX2.out.below hb hlBX2) 0 _ rfl, (BX2.out.below hb hlBX2) 1 _ rfl⟩⟩))
          have hks : (w14_.cell? ⟨w.heap.size, 0, none⟩ = some (.int .i64 x0.f0) ∧ w14_.cell? ⟨w.heap.size, 1, none⟩ = some (.int .i64 x0.f1) ∧ w14_.cell? ⟨w.heap.size, 2, none⟩ = some (.int .i64 x0.f2) ∧ w14_.cell? ⟨w.heap.size, 3, none⟩ = some (.int .i64 x0.f3) ∧ w14_.cell? ⟨w.heap.size, 4, none⟩ = some (.slice s0 x0.f4.length cap0)) ∧ (w14_.cell? ⟨(w.heap.size + 1), 0, none⟩ = some (.string e2.f0) ∧ w14_.cell? ⟨(w.heap.size + 1), 1, none⟩ = some (.int .i64 e2.f1)) := KS.out _ (Below.refl _ _)
          have FBX := Lib.hid (fun w' (hb : Below w14_.heap.size w14_ w') => (show Below w.heap.size w w' from FB.out.trans (hb.mono FN)))
          have HC := Lib.hid (show Below w14_.heap.size w14_ w14_.drew from (Below.refl _ _).drew)
          replace RS := Lib.hid RS.out.drew
          replace RM := Lib.hid RM.out.drew
          go_wp2
          go_region_held3 (fun w' => (w'.cell? ⟨w.heap.size, 0, none⟩ = some (.int .i64 x0.f0) ∧ w'.cell? ⟨w.heap.size, 1, none⟩ = some (.int .i64 x0.f1) ∧ w'.cell? ⟨w.heap.size, 2, none⟩ = some (.int .i64 x0.f2) ∧ w'.cell? ⟨w.heap.size, 3, none⟩ = some (.int .i64 x0.f3) ∧ w'.cell? ⟨w.heap.size, 4, none⟩ = some (.slice s0 x0.f4.length cap0)) ∧ (w'.cell? ⟨(w.heap.size + 1), 0, none⟩ = some (.string e2.f0) ∧ w'.cell? ⟨(w.heap.size + 1), 1, none⟩ = some (.int .i64 e2.f1)))
            (first | (with_reducible exact KS.out _ HC.out) | (with_reducible exact KS.out _ (HC.out.alloc HC.out.size _)) | (with_reducible exact KS.out _ (((((HC.out.setCell hEp _).setCell hEp _).setCell hEp _).setCell hEp _).setCell hEp _)) | go_keep)
            (first
              | (go_at_call 17; first | ((with_reducible refine (TO0.out _ (FBX.out _ HC.out)).mono ?_); rintro e wt0 ⟨gt0, rfl, hrowt0, hgt0, hbt0⟩; replace HC := Lib.hid (HC.out.trans (hbt0.mono HC.out.size)); (try (replace EA := Lib.hid (EA.out.below hbt0))); (try (replace RS := Lib.hid (RS.out.sm (Sm.of_below hbt0) (by omega)))); (try (replace RM := Lib.hid (RM.out.sm (Sm.of_below hbt0) (by omega)))); (try (replace V0 := Lib.hid (V0.out.sm (Sm.of_below hbt0) (by omega)))); have V0 := Lib.hid (hrowt0.sli hgt0)) | (have EA := Lib.hid (show MadeAt (w14_.alloc (.cells #[.int .i64 0, .int .i64 0, .int .i64 0, .int .i64 0, .slice none 0 0] 29)).drew w14_.heap.size (.cells #[.int .i64 0, .int .i64 0, .int .i64 0, .int .i64 0, .slice none 0 0] 29) from MadeAt.new w14_ (.cells #[.int .i64 0, .int .i64 0, .int .i64 0, .int .i64 0, .slice none 0 0] 29)); have hEp : w14_.heap.size ≤ w14_.heap.size := Nat.le_refl _; replace HC := Lib.hid (show Below w14_.heap.size w14_ (w14_.alloc (.cells #[.int .i64 0, .int .i64 0, .int .i64 0, .int .i64 0, .slice none 0 0] 29)).drew from ((Below.refl _ _).alloc (Nat.le_refl _) (.cells #[.int .i64 0, .int .i64 0, .int .i64 0, .int .i64 0, .slice none 0 0] 29)).drew); (try (replace RS := Lib.hid (show SlSI _ _ (w14_.alloc (.cells #[.int .i64 0, .int .i64 0, .int .i64 0, .int .i64 0, .slice none 0 0] 29)).drew _ _ _ _ from RS.out.sm (Sm.alloc w14_.drew (.cells #[.int .i64 0, .int .i64 0, .int .i64 0, .int .i64 0, .slice none 0 0] 29)) (by omega)))); (try (replace RM := Lib.hid (show SlSI _ _ (w14_.alloc (.cells #[.int .i64 0, .int .i64 0, .int .i64 0, .int .i64 0, .slice none 0 0] 29)).drew _ _ _ _ from RM.out.sm (Sm.alloc w14_.drew (.cells #[.int .i64 0, .int .i64 0, .int .i64 0, .int .i64 0, .slice none 0 0] 29)) (by omega)))); (try (replace V0 := Lib.hid (show SlSI _ _ (w14_.alloc (.cells #[.int .i64 0, .int .i64 0, .int .i64 0, .int .i64 0, .slice none 0 0] 29)).drew _ _ _ _ from V0.out.sm (Sm.alloc w14_.drew (.cells #[.int .i64 0, .int .i64 0, .int .i64 0, .int .i64 0, .slice none 0 0] 29)) (by omega)))); (with_reducible refine (TO0.out _ (FBX.out _ HC.out)).mono ?_); rintro e wt0 ⟨gt0, rfl, hrowt0, hgt0, hbt0⟩; replace HC := Lib.hid (HC.out.trans (hbt0.mono HC.out.size)); (try (replace EA := Lib.hid (EA.out.below hbt0))); (try (replace RS := Lib.hid (RS.out.sm (Sm.of_below hbt0) (by omega)))); (try (replace RM := Lib.hid (RM.out.sm (Sm.of_below hbt0) (by omega)))); (try (replace V0 := Lib.hid (V0.out.sm (Sm.of_below hbt0) (by omega)))); have V0 := Lib.hid (hrowt0.sli hgt0)) | (have EA := Lib.hid ((fun (W : World) (h : Below w14_.heap.size w14_ W) => MadeAt.new W (.cells #[.int .i64 0, .int .i64 0, .int .i64 0, .int .i64 0, .slice none 0 0] 29)) _ HC.out); have hEp := HC.out.size; replace HC := Lib.hid (HC.out.alloc HC.out.size (.cells #[.int .i64 0, .int .i64 0, .int .i64 0, .int .i64 0, .slice none 0 0] 29)); (try (replace RS := Lib.hid (RS.out.sm (Sm.alloc _ (.cells #[.int .i64 0, .int .i64 0, .int .i64 0, .int .i64 0, .slice none 0 0] 29)) (by omega)))); (try (replace RM := Lib.hid (RM.out.sm (Sm.alloc _ (.cells #[.int .i64 0, .int .i64 0, .int .i64 0, .int .i64 0, .slice none 0 0] 29)) (by omega)))); (try (replace V0 := Lib.hid (V0.out.sm (Sm.alloc _ (.cells #[.int .i64 0, .int .i64 0, .int .i64 0, .int .i64 0, .slice none 0 0] 29)) (by omega)))); (with_reducible refine (TO0.out _ (FBX.out _ HC.out)).mono ?_); rintro e wt0 ⟨gt0, rfl, hrowt0, hgt0, hbt0⟩; replace HC := Lib.hid (HC.out.trans (hbt0.mono HC.out.size)); (try (replace EA := Lib.hid (EA.out.below hbt0))); (try (replace RS := Lib.hid (RS.out.sm (Sm.of_below hbt0) (by omega)))); (try (replace RM := Lib.hid (RM.out.sm (Sm.of_below hbt0) (by omega)))); (try (replace V0 := Lib.hid (V0.out.sm (Sm.of_below hbt0) (by omega)))); have V0 := Lib.hid (hrowt0.sli hgt0)))
              | (go_at_call 33; first | ((with_reducible refine (TO2.out _).mono ?_); rintro e wt2 ⟨rfl, hbt2⟩; replace HC := Lib.hid (HC.out.trans (hbt2.mono HC.out.size)); (try (replace EA := Lib.hid (EA.out.below hbt2))); (try (replace RS := Lib.hid (RS.out.sm (Sm.of_below hbt2) (by omega)))); (try (replace RM := Lib.hid (RM.out.sm (Sm.of_below hbt2) (by omega)))); (try (replace V0 := Lib.hid (V0.out.sm (Sm.of_below hbt2) (by omega)))); skip) | (have EA := Lib.hid (show MadeAt (w14_.alloc (.cells #[.int .i64 0, .int .i64 0, .int .i64 0, .int .i64 0, .slice none 0 0] 29)).drew w14_.heap.size (.cells #[.int .i64 0, .int .i64 0, .int .i64 0, .int .i64 0, .slice none 0 0] 29) from MadeAt.new w14_ (.cells #[.int .i64 0, .int .i64 0, .int .i64 0, .int .i64 0, .slice none 0 0] 29)); have hEp : w14_.heap.size ≤ w14_.heap.size := Nat.le_refl _; replace HC := Lib.hid (show Below w14_.heap.size w14_ (w14_.alloc (.cells #[.int .i64 0, .int .i64 0, .int .i64 0, .int .i64 0, .slice none 0 0] 29)).drew from ((Below.refl _ _).alloc (Nat.le_refl _) (.cells #[.int .i64 0, .int .i64 0, .int .i64 0, .int .i64 0, .slice none 0 0] 29)).drew); (try (replace RS := Lib.hid (show SlSI _ _ (w14_.alloc (.cells #[.int .i64 0, .int .i64 0, .int .i64 0, .int .i64 0, .slice none 0 0] 29)).drew _ _ _ _ from RS.out.sm (Sm.alloc w14_.drew (.cells #[.int .i64 0, .int .i64 0, .int .i64 0, .int .i64 0, .slice none 0 0] 29)) (by omega)))); (try (replace RM := Lib.hid (show SlSI _ _ (w14_.alloc (.cells #[.int .i64 0, .int .i64 0, .int .i64 0, .int .i64 0, .slice none 0 0] 29)).drew _ _ _ _ from RM.out.sm (Sm.alloc w14_.drew (.cells #[.int .i64 0, .int .i64 0, .int .i64 0, .int .i64 0, .slice none 0 0] 29)) (by omega)))); (try (replace V0 := Lib.hid (show SlSI _ _ (w14_.alloc (.cells #[.int .i64 0, .int .i64 0, .int .i64 0, .int .i64 0, .slice none 0 0] 29)).drew _ _ _ _ from V0.out.sm (Sm.alloc w14_.drew (.cells #[.int .i64 0, .int .i64 0, .int .i64 0, .int .i64 0, .slice none 0 0] 29)) (by omega)))); (with_reducible refine (TO2.out _).mono ?_); rintro e wt2 ⟨rfl, hbt2⟩; replace HC := Lib.hid (HC.out.trans (hbt2.mono HC.out.size)); (try (replace EA := Lib.hid (EA.out.below hbt2))); (try (replace RS := Lib.hid (RS.out.sm (Sm.of_below hbt2) (by omega)))); (try (replace RM := Lib.hid (RM.out.sm (Sm.of_below hbt2) (by omega)))); (try (replace V0 := Lib.hid (V0.out.sm (Sm.of_below hbt2) (by omega)))); skip) | (have EA := Lib.hid ((fun (W : World) (h : Below w14_.heap.size w14_ W) => MadeAt.new W (.cells #[.int .i64 0, .int .i64 0, .int .i64 0, .int .i64 0, .slice none 0 0] 29)) _ HC.out); have hEp := HC.out.size; replace HC := Lib.hid (HC.out.alloc HC.out.size (.cells #[.int .i64 0, .int .i64 0, .int .i64 0, .int .i64 0, .slice none 0 0] 29)); (try (replace RS := Lib.hid (RS.out.sm (Sm.alloc _ (.cells #[.int .i64 0, .int .i64 0, .int .i64 0, .int .i64 0, .slice none 0 0] 29)) (by omega)))); (try (replace RM := Lib.hid (RM.out.sm (Sm.alloc _ (.cells #[.int .i64 0, .int .i64 0, .int .i64 0, .int .i64 0, .slice none 0 0] 29)) (by omega)))); (try (replace V0 := Lib.hid (V0.out.sm (Sm.alloc _ (.cells #[.int .i64 0, .int .i64 0, .int .i64 0, .int .i64 0, .slice none 0 0] 29)) (by omega)))); (with_reducible refine (TO2.out _).mono ?_); rintro e wt2 ⟨rfl, hbt2⟩; replace HC := Lib.hid (HC.out.trans (hbt2.mono HC.out.size)); (try (replace EA := Lib.hid (EA.out.below hbt2))); (try (replace RS := Lib.hid (RS.out.sm (Sm.of_below hbt2) (by omega)))); (try (replace RM := Lib.hid (RM.out.sm (Sm.of_below hbt2) (by omega)))); (try (replace V0 := Lib.hid (V0.out.sm (Sm.of_below hbt2) (by omega)))); skip))
              | (go_at_call 34; first | ((with_reducible refine (IM.out _ _ V0.out.sl).mono ?_); rintro e wk15 ⟨sk15, dk15, rfl, hsok15, hbk15⟩; have hbfk15 := HC.out.size; (try (have hEq := EA.out.lt)); replace HC := Lib.hid (HC.out.trans (hbk15.mono HC.out.size)); (try (replace EA := Lib.hid (EA.out.below hbk15))); (try (replace RS := Lib.hid (RS.out.sm (Sm.of_below hbk15) (by omega)))); (try (replace RM := Lib.hid (RM.out.sm (Sm.of_below hbk15) (by omega)))); (try (replace V0 := Lib.hid (V0.out.sm (Sm.of_below hbk15) (by omega)))); (try (obtain ⟨qa0, qb0⟩ := EA.out.at 0 rfl; obtain ⟨qa1, qb1⟩ := EA.out.at 1 rfl; obtain ⟨qa2, qb2⟩ := EA.out.at 2 rfl; obtain ⟨qa3, qb3⟩ := EA.out.at 3 rfl; obtain ⟨qa4, qb4⟩ := EA.out.at 4 rfl))) | (have EA := Lib.hid (show MadeAt (w14_.alloc (.cells #[.int .i64 0, .int .i64 0, .int .i64 0, .int .i64 0, .slice none 0 0] 29)).drew w14_.heap.size (.cells #[.int .i64 0, .int .i64 0, .int .i64 0, .int .i64 0, .slice none 0 0] 29) from MadeAt.new w14_ (.cells #[.int .i64 0, .int .i64 0, .int .i64 0, .int .i64 0, .slice none 0 0] 29)); have hEp : w14_.heap.size ≤ w14_.heap.size := Nat.le_refl _; replace HC := Lib.hid (show Below w14_.heap.size w14_ (w14_.alloc (.cells #[.int .i64 0, .int .i64 0, .int .i64 0, .int .i64 0, .slice none 0 0] 29)).drew from ((Below.refl _ _).alloc (Nat.le_refl _) (.cells #[.int .i64 0, .int .i64 0, .int .i64 0, .int .i64 0, .slice none 0 0] 29)).drew); (try (replace RS := Lib.hid (show SlSI _ _ (w14_.alloc (.cells #[.int .i64 0, .int .i64 0, .int .i64 0, .int .i64 0, .slice none 0 0] 29)).drew _ _ _ _ from RS.out.sm (Sm.alloc w14_.drew (.cells #[.int .i64 0, .int .i64 0, .int .i64 0, .int .i64 0, .slice none 0 0] 29)) (by omega)))); (try (replace RM := Lib.hid (show SlSI _ _ (w14_.alloc (.cells #[.int .i64 0, .int .i64 0, .int .i64 0, .int .i64 0, .slice none 0 0] 29)).drew _ _ _ _ from RM.out.sm (Sm.alloc w14_.drew (.cells #[.int .i64 0, .int .i64 0, .int .i64 0, .int .i64 0, .slice none 0 0] 29)) (by omega)))); (try (replace V0 := Lib.hid (show SlSI _ _ (w14_.alloc (.cells #[.int .i64 0, .int .i64 0, .int .i64 0, .int .i64 0, .slice none 0 0] 29)).drew _ _ _ _ from V0.out.sm (Sm.alloc w14_.drew (.cells #[.int .i64 0, .int .i64 0, .int .i64 0, .int .i64 0, .slice none 0 0] 29)) (by omega)))); (with_reducible refine (IM.out _ _ V0.out.sl).mono ?_); rintro e wk15 ⟨sk15, dk15, rfl, hsok15, hbk15⟩; have hbfk15 := HC.out.size; (try (have hEq := EA.out.lt)); replace HC := Lib.hid (HC.out.trans (hbk15.mono HC.out.size)); (try (replace EA := Lib.hid (EA.out.below hbk15))); (try (replace RS := Lib.hid (RS.out.sm (Sm.of_below hbk15) (by omega)))); (try (replace RM := Lib.hid (RM.out.sm (Sm.of_below hbk15) (by omega)))); (try (replace V0 := Lib.hid (V0.out.sm (Sm.of_below hbk15) (by omega)))); (try (obtain ⟨qa0, qb0⟩ := EA.out.at 0 rfl; obtain ⟨qa1, qb1⟩ := EA.out.at 1 rfl; obtain ⟨qa2, qb2⟩ := EA.out.at 2 rfl; obtain ⟨qa3, qb3⟩ := EA.out.at 3 rfl; obtain ⟨qa4, qb4⟩ := EA.out.at 4 rfl))) | (have EA := Lib.hid ((fun (W : World) (h : Below w14_.heap.size w14_ W) => MadeAt.new W (.cells #[.int .i64 0, .int .i64 0, .int .i64 0, .int .i64 0, .slice none 0 0] 29)) _ HC.out); have hEp := HC.out.size; replace HC := Lib.hid (HC.out.alloc HC.out.size (.cells #[.int .i64 0, .int .i64 0, .int .i64 0, .int .i64 0, .slice none 0 0] 29)); (try (replace RS := Lib.hid (RS.out.sm (Sm.alloc _ (.cells #[.int .i64 0, .int .i64 0, .int .i64 0, .int .i64 0, .slice none 0 0] 29)) (by omega)))); (try (replace RM := Lib.hid (RM.out.sm (Sm.alloc _ (.cells #[.int .i64 0, .int .i64 0, .int .i64 0, .int .i64 0, .slice none 0 0] 29)) (by omega)))); (try (replace V0 := Lib.hid (V0.out.sm (Sm.alloc _ (.cells #[.int .i64 0, .int .i64 0, .int .i64 0, .int .i64 0, .slice none 0 0] 29)) (by omega)))); (with_reducible refine (IM.out _ _ V0.out.sl).mono ?_); rintro e wk15 ⟨sk15, dk15, rfl, hsok15, hbk15⟩; have hbfk15 := HC.out.size; (try (have hEq := EA.out.lt)); replace HC := Lib.hid (HC.out.trans (hbk15.mono HC.out.size)); (try (replace EA := Lib.hid (EA.out.below hbk15))); (try (replace RS := Lib.hid (RS.out.sm (Sm.of_below hbk15) (by omega)))); (try (replace RM := Lib.hid (RM.out.sm (Sm.of_below hbk15) (by omega)))); (try (replace V0 := Lib.hid (V0.out.sm (Sm.of_below hbk15) (by omega)))); (try (obtain ⟨qa0, qb0⟩ := EA.out.at 0 rfl; obtain ⟨qa1, qb1⟩ := EA.out.at 1 rfl; obtain ⟨qa2, qb2⟩ := EA.out.at 2 rfl; obtain ⟨qa3, qb3⟩ := EA.out.at 3 rfl; obtain ⟨qa4, qb4⟩ := EA.out.at 4 rfl))))
              | fail)
          all_goals
            go_wp2_with fail
            go_meet
            case rel => first | (with_reducible exact Lib.hid ⟨rfl, OneIn.late hsok15 hbfk15 HC.out.size, HC.out.alloc HC.out.size _⟩) | (with_reducible exact Lib.hid ⟨rfl, OneIn.early5 hsok15 hEp hEq EA.out rfl _ rfl, (((((HC.out.setCell hEp _).setCell hEp _).setCell hEp _).setCell hEp _).setCell hEp _)⟩)
        obtain ⟨rfl, ⟨pH, sH, dH, BH_, EH_, rfl, hpH, hplH, hqH, hBH, hEH, hCH, hRH⟩, hbcH⟩ := hcut.out
        clear hcut
        obtain ⟨wH_, hwH_⟩ : ∃ W, wc = W := ⟨_, rfl⟩
        rw [hwH_] at hplH hEH hCH hRH hbcH ⊢
        clear hwH_ wc
        replace BX0 := Lib.hid (BX0.out.sm (Sm.of_below hbcH) (by omega))
        replace BX2 := Lib.hid (BX2.out.sm (Sm.of_below hbcH) (by omega))
        replace RS := Lib.hid (RS.out.sm (Sm.of_below hbcH) (by omega))
        replace CS := Lib.hid (CS.out.sm (Sm.of_below hbcH) (by omega))
        replace CX0 := Lib.hid (CX0.out.sm (Sm.of_below hbcH) (by omega))
        replace CG := Lib.hid (CG.out.sm (Sm.of_below hbcH) (by omega))
        replace RM := Lib.hid (RM.out.sm (Sm.of_below hbcH) (by omega))
        replace FB := Lib.hid (below_step FB.out FN hbcH)
        have hzH := hbcH.size
        replace FN := Nat.le_trans FN hzH
        have RH := Lib.hid hRH
        have CH := Lib.hid hCH
        clear hRH hCH hbcH
        have xCH0 := CH.out 0 _ rfl
        have xCH1 := CH.out 1 _ rfl
        have xCH2 := CH.out 2 _ rfl
        have xCH3 := CH.out 3 _ rfl
        have xCH4 := CH.out 4 _ rfl
        have xCS0 := CS.out 0 _ rfl
        have xCS1 := CS.out 1 _ rfl
        have xCS2 := CS.out 2 _ rfl
        have xCS3 := CS.out 3 _ rfl
        have xCS4 := CS.out 4 _ rfl
        go_wp2_with fail
        refine (EQ.out _ _ _ _ _ RH.out.sl RS.out.sl).mono ?_
        rintro e w16_ ⟨rfl, hb16⟩
        clear xCH0 xCH1 xCH2 xCH3 xCH4
        clear xCS0 xCS1 xCS2 xCS3 xCS4
        have hS := Sm.of_below hb16
        replace BX0 := Lib.hid (BX0.out.sm hS (by omega))
        replace BX2 := Lib.hid (BX2.out.sm hS (by omega))
        replace RS := Lib.hid (RS.out.sm hS (by omega))
        replace CS := Lib.hid (CS.out.sm hS (by omega))
        replace CX0 := Lib.hid (CX0.out.sm hS (by omega))
        replace CG := Lib.hid (CG.out.sm hS (by omega))
        replace RM := Lib.hid (RM.out.sm hS (by omega))
        replace RH := Lib.hid (RH.out.sm hS (by omega))
        replace CH := Lib.hid (CH.out.sm hS (by omega))
        replace FB := Lib.hid (below_step FB.out FN hb16)
        have hzw16_ := hb16.size
        replace FN := Nat.le_trans FN hzw16_
        clear hS hb16
        have xCG0 := CG.out 0 _ rfl
        have xCG1 := CG.out 1 _ rfl
        have xCG2 := CG.out 2 _ rfl
        have xCG3 := CG.out 3 _ rfl
        have xCG4 := CG.out 4 _ rfl
        go_wp2_with fail
        refine (HD.out _ _ _ RM.out.sl).mono ?_
        rintro e w17_ ⟨rfl, hb17⟩
        clear xCG0 xCG1 xCG2 xCG3 xCG4
        have hS := Sm.of_below hb17
        replace BX0 := Lib.hid (BX0.out.sm hS (by omega))
        replace BX2 := Lib.hid (BX2.out.sm hS (by omega))
        replace RS := Lib.hid (RS.out.sm hS (by omega))
        replace CS := Lib.hid (CS.out.sm hS (by omega))
        replace CX0 := Lib.hid (CX0.out.sm hS (by omega))
        replace CG := Lib.hid (CG.out.sm hS (by omega))
        replace RM := Lib.hid (RM.out.sm hS (by omega))
        replace RH := Lib.hid (RH.out.sm hS (by omega))
        replace CH := Lib.hid (CH.out.sm hS (by omega))
        replace FB := Lib.hid (below_step FB.out FN hb17)
        have hzw17_ := hb17.size
        replace FN := Nat.le_trans FN hzw17_
        clear hS hb17
        go_wp2
        go_ret
        exact ⟨rfl, FB.out⟩
end Go.Proofs.Ytpcfhfnlpcpofaa.fnExactPutSector
