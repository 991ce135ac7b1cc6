/- FnExactSectorAt: the law's walk. -/
import Derived.Test.YtpcfhfnlpcpofaaSm
import Derived.Test.YtpcfhfnlpcpofaaRecSm
import Derived.Test.YtpcfhfnlpcpofaaBoxes
import Derived.Test.YtpcfhfnlpcpofaaSectorAt
import Derived.Test.YtpcfhfnlpcpofaaOneDisc
import Derived.Test.YtpcfhfnlpcpofaaRecSector
namespace Go.Proofs.Ytpcfhfnlpcpofaa.fnExactSectorAt
open Go.RowKit
set_option linter.unusedVariables false
set_option maxHeartbeats 8000000 in
theorem walk (x0 : DiscV) (s0 : Option Addr) (cap0 : Nat) (a1 : Int) (a2 : Int) (a3 : Int) (w : World) (w0 : ArgDisc w s0 x0) (w1 : (Lit.int .i64 a1).wf = true) (w2 : (Lit.int .i64 a2).wf = true) (w3 : (Lit.int .i64 a3).wf = true) :
    Calls Try.prog 7 #[.agg #[.int .i64 x0.f0, .int .i64 x0.f1, .int .i64 x0.f2, .int .i64 x0.f3, .slice s0 x0.f4.length cap0], .int .i64 a1, .int .i64 a2, .int .i64 a3] w fun e w' => e = .returned (.bool true) ∧ Below w.heap.size w w' := by
  obtain ⟨hm0, hsl0, v0⟩ := w0
  by_cases hk0 : wtDisc x0 ≤ 1048576
  case neg =>
    have SN0 := Lib.hid (fun w' (hb : Below w.heap.size w w') => (szDisc_any x0 s0 cap0 1048576 w' (by omega) hm0 v0 (hsl0.below hb (Nat.le_refl _))).mono (fun e w'' ⟨he, hw⟩ => (show e = Ending.returned (.int .i64 (-1)) ∧ Below w'.heap.size w' w'' from ⟨by rw [he]; unfold szV; rw [if_neg hk0], hw⟩)))
    clear hsl0
    go_enter Try.func7, Try.ntmps7
    have FB := Lib.hid (show Below w.heap.size w w from Below.refl _ _)
    have FN : w.heap.size ≤ w.heap.size := Nat.le_refl _
    have hS := Sm.alloc w (.cells #[.int .i64 x0.f0, .int .i64 x0.f1, .int .i64 x0.f2, .int .i64 x0.f3, .slice s0 x0.f4.length cap0] 24)
    have BX0 := Lib.hid (BoxAt.new w #[.int .i64 x0.f0, .int .i64 x0.f1, .int .i64 x0.f2, .int .i64 x0.f3, .slice s0 x0.f4.length cap0] 24 w.heap.size rfl)
    replace FB := Lib.hid (below_new FB.out FN (.cells #[.int .i64 x0.f0, .int .i64 x0.f1, .int .i64 x0.f2, .int .i64 x0.f3, .slice s0 x0.f4.length cap0] 24))
    have hq1 : (w.alloc (.cells #[.int .i64 x0.f0, .int .i64 x0.f1, .int .i64 x0.f2, .int .i64 x0.f3, .slice s0 x0.f4.length cap0] 24)).heap.size = w.heap.size + 1 := by simp
    replace FN : w.heap.size ≤ (w.alloc (.cells #[.int .i64 x0.f0, .int .i64 x0.f1, .int .i64 x0.f2, .int .i64 x0.f3, .slice s0 x0.f4.length cap0] 24)).heap.size := by omega
    clear hS
    have xBX00 := BX0.out 0 _ rfl
    have xBX01 := BX0.out 1 _ rfl
    have xBX02 := BX0.out 2 _ rfl
    have xBX03 := BX0.out 3 _ rfl
    have xBX04 := BX0.out 4 _ rfl
    go_wp2_with fail
    refine (SN0.out _ FB.out).mono ?_
    rintro e w2_ ⟨rfl, hb2⟩
    clear xBX00 xBX01 xBX02 xBX03 xBX04
    have hS := Sm.of_below hb2
    replace BX0 := Lib.hid (BX0.out.sm hS (by omega))
    replace FB := Lib.hid (below_step FB.out FN hb2)
    have hzw2_ := hb2.size
    replace FN := Nat.le_trans FN hzw2_
    clear hS hb2
    go_wp2
    go_ret
    exact ⟨rfl, FB.out⟩
  case pos =>
    have sz0 := fun w' (hb : Below w.heap.size w w') => (szDisc_any x0 s0 cap0 1048576 w' (by omega) hm0 v0 (hsl0.below hb (Nat.le_refl _))).mono (fun e w'' ⟨he, hw⟩ => (show e = Ending.returned (.int .i64 ((1048576 - wtDisc x0 : Nat) : Int)) ∧ Below w'.heap.size w' w'' from ⟨by rw [he]; unfold szV; rw [if_pos hk0], hw⟩))
    obtain ⟨lf0, hlf0⟩ : ∃ m, 1048576 - wtDisc x0 = m := ⟨_, rfl⟩
    rw [hlf0] at sz0
    have hlfb0 : ¬ ((lf0 : Int) < 0) := by omega
    have hlfc0 : lf0 ≤ 1048576 := by omega
    have SZ0 := Lib.hid sz0; clear sz0
    have hn0 : x0.f4.length ≤ 1048576 := by have := wtDisc_len x0; omega
    have hv0 : ∀ e ∈ x0.f4, e.f0.size ≤ 1048576 := fun e he => by have := wtSector_at (show wtSector x0.f4 ≤ _ from Nat.le_refl (wtDisc x0)) e he; omega
    have TO0 := Lib.hid (fun w' (hb : Below w.heap.size w w') => toDisc_any x0 s0 cap0 w' hn0 (hsl0.below hb (Nat.le_refl _)))
    have EX0 := Lib.hid (fun x d y d' w' (h1 : SlS rowSector w' x x0.f4) (h2 : SlS rowSector w' y x0.f4) => eqDisc_any true x0 x d x0 y d' w' (by simp) (by omega) (by omega) h1 h2)
    have hsp := fun g0 w' (h0 : SlS rowSector w' (some ⟨g0, 0, none⟩) x0.f4) => specSectorAt_g x0 (some ⟨g0, 0, none⟩) x0.f4.length a1 a2 a3 hn0 hv0 w' h0
    have him := fun g0 w' (h0 : SlS rowSector w' (some ⟨g0, 0, none⟩) x0.f4) => sectorAt_g x0 (some ⟨g0, 0, none⟩) x0.f4.length a1 a2 a3 hn0 hv0 w' h0
    generalize secAtV x0 a1 a2 a3 = r0 at hsp him
    have EQ0 := Lib.hid (fun w' => (eqSector_any r0 r0 w').mono (fun e w'' ⟨he, hw⟩ => (show e = Ending.returned (.bool true) ∧ Below w'.heap.size w' w'' from ⟨by rw [he, sameSector_iff.2 rfl], hw⟩)))
    generalize secAtC x0 a1 a2 a3 = r1 at hsp him
    have hvq1 : (r1 != r1) = false := by simp
    have SP := Lib.hid hsp; have IM := Lib.hid him; clear hsp him hsl0
    go_enter Try.func7, Try.ntmps7
    have FB := Lib.hid (show Below w.heap.size w w from Below.refl _ _)
    have FN : w.heap.size ≤ w.heap.size := Nat.le_refl _
    have hS := Sm.alloc w (.cells #[.int .i64 x0.f0, .int .i64 x0.f1, .int .i64 x0.f2, .int .i64 x0.f3, .slice s0 x0.f4.length cap0] 24)
    have BX0 := Lib.hid (BoxAt.new w #[.int .i64 x0.f0, .int .i64 x0.f1, .int .i64 x0.f2, .int .i64 x0.f3, .slice s0 x0.f4.length cap0] 24 w.heap.size rfl)
    replace FB := Lib.hid (below_new FB.out FN (.cells #[.int .i64 x0.f0, .int .i64 x0.f1, .int .i64 x0.f2, .int .i64 x0.f3, .slice s0 x0.f4.length cap0] 24))
    have hq1 : (w.alloc (.cells #[.int .i64 x0.f0, .int .i64 x0.f1, .int .i64 x0.f2, .int .i64 x0.f3, .slice s0 x0.f4.length cap0] 24)).heap.size = w.heap.size + 1 := by simp
    replace FN : w.heap.size ≤ (w.alloc (.cells #[.int .i64 x0.f0, .int .i64 x0.f1, .int .i64 x0.f2, .int .i64 x0.f3, .slice s0 x0.f4.length cap0] 24)).heap.size := by omega
    clear hS
    have xBX00 := BX0.out 0 _ rfl
    have xBX01 := BX0.out 1 _ rfl
    have xBX02 := BX0.out 2 _ rfl
    have xBX03 := BX0.out 3 _ rfl
    have xBX04 := BX0.out 4 _ rfl
    go_wp2_with fail
    refine (SZ0.out _ FB.out).mono ?_
    rintro e w2_ ⟨rfl, hb2⟩
    clear xBX00 xBX01 xBX02 xBX03 xBX04
    have hS := Sm.of_below hb2
    replace BX0 := Lib.hid (BX0.out.sm hS (by omega))
    replace FB := Lib.hid (below_step FB.out FN hb2)
    have hzw2_ := hb2.size
    replace FN := Nat.le_trans FN hzw2_
    clear hS hb2
    have xBX00 := BX0.out 0 _ rfl
    have xBX01 := BX0.out 1 _ rfl
    have xBX02 := BX0.out 2 _ rfl
    have xBX03 := BX0.out 3 _ rfl
    have xBX04 := BX0.out 4 _ rfl
    go_wp2_with fail
    refine (TO0.out _ FB.out).mono ?_
    rintro e w3_ ⟨g3, rfl, hrow3, hg3, hb3⟩
    clear xBX00 xBX01 xBX02 xBX03 xBX04
    have hS := Sm.of_below hb3
    replace BX0 := Lib.hid (BX0.out.sm hS (by omega))
    replace FB := Lib.hid (below_step FB.out FN hb3)
    have hzw3_ := hb3.size
    replace FN := Nat.le_trans FN hzw3_
    clear hS hb3
    have R0 := Lib.hid (hrow3.sli hg3)
    clear hrow3 hg3
    go_wp2_with fail
    refine (SP.out _ _ R0.out.sl).mono ?_
    rintro e w4_ ⟨rfl, hb4⟩
    have hS := Sm.of_below hb4
    replace BX0 := Lib.hid (BX0.out.sm hS (by omega))
    replace R0 := Lib.hid (R0.out.sm hS (by omega))
    replace FB := Lib.hid (below_step FB.out FN hb4)
    have hzw4_ := hb4.size
    replace FN := Nat.le_trans FN hzw4_
    clear hS hb4
    clear R0
    have hS := Sm.alloc w4_ (.cells #[.string r0.f0, .int .i64 r0.f1] 41)
    replace BX0 := Lib.hid (BX0.out.sm hS (by omega))
    have RS0 := Lib.hid (BoxAt.new w4_ #[.string r0.f0, .int .i64 r0.f1] 41 w4_.heap.size rfl)
    replace FB := Lib.hid (below_new FB.out FN (.cells #[.string r0.f0, .int .i64 r0.f1] 41))
    have hq5 : (w4_.alloc (.cells #[.string r0.f0, .int .i64 r0.f1] 41)).heap.size = w4_.heap.size + 1 := by simp
    replace FN : w.heap.size ≤ (w4_.alloc (.cells #[.string r0.f0, .int .i64 r0.f1] 41)).heap.size := by omega
    clear hS
    have xBX00 := BX0.out 0 _ rfl
    have xBX01 := BX0.out 1 _ rfl
    have xBX02 := BX0.out 2 _ rfl
    have xBX03 := BX0.out 3 _ rfl
    have xBX04 := BX0.out 4 _ rfl
    go_wp2_with fail
    refine (TO0.out _ FB.out).mono ?_
    rintro e w6_ ⟨g6, rfl, hrow6, hg6, hb6⟩
    clear xBX00 xBX01 xBX02 xBX03 xBX04
    have hS := Sm.of_below hb6
    replace BX0 := Lib.hid (BX0.out.sm hS (by omega))
    replace RS0 := Lib.hid (RS0.out.sm hS (by omega))
    replace FB := Lib.hid (below_step FB.out FN hb6)
    have hzw6_ := hb6.size
    replace FN := Nat.le_trans FN hzw6_
    clear hS hb6
    have X0 := Lib.hid (hrow6.sli hg6)
    clear hrow6 hg6
    have hS := Sm.alloc w6_ (.cells #[.int .i64 x0.f0, .int .i64 x0.f1, .int .i64 x0.f2, .int .i64 x0.f3, .slice (some ⟨g6, 0, none⟩) x0.f4.length x0.f4.length] 29)
    replace BX0 := Lib.hid (BX0.out.sm hS (by omega))
    replace RS0 := Lib.hid (RS0.out.sm hS (by omega))
    replace X0 := Lib.hid (X0.out.sm hS (by omega))
    have CX0 := Lib.hid (BoxAt.new w6_ #[.int .i64 x0.f0, .int .i64 x0.f1, .int .i64 x0.f2, .int .i64 x0.f3, .slice (some ⟨g6, 0, none⟩) x0.f4.length x0.f4.length] 29 w6_.heap.size rfl)
    replace FB := Lib.hid (below_new FB.out FN (.cells #[.int .i64 x0.f0, .int .i64 x0.f1, .int .i64 x0.f2, .int .i64 x0.f3, .slice (some ⟨g6, 0, none⟩) x0.f4.length x0.f4.length] 29))
    have hq7 : (w6_.alloc (.cells #[.int .i64 x0.f0, .int .i64 x0.f1, .int .i64 x0.f2, .int .i64 x0.f3, .slice (some ⟨g6, 0, none⟩) x0.f4.length x0.f4.length] 29)).heap.size = w6_.heap.size + 1 := by simp
    replace FN : w.heap.size ≤ (w6_.alloc (.cells #[.int .i64 x0.f0, .int .i64 x0.f1, .int .i64 x0.f2, .int .i64 x0.f3, .slice (some ⟨g6, 0, none⟩) x0.f4.length x0.f4.length] 29)).heap.size := by omega
    clear hS
    have xCX00 := CX0.out 0 _ rfl
    have xCX01 := CX0.out 1 _ rfl
    have xCX02 := CX0.out 2 _ rfl
    have xCX03 := CX0.out 3 _ rfl
    have xCX04 := CX0.out 4 _ rfl
    go_wp2_with fail
    refine (IM.out _ _ X0.out.sl).mono ?_
    rintro e w8_ ⟨rfl, hb8⟩
    clear xCX00 xCX01 xCX02 xCX03 xCX04
    have hS := Sm.of_below hb8
    replace BX0 := Lib.hid (BX0.out.sm hS (by omega))
    replace RS0 := Lib.hid (RS0.out.sm hS (by omega))
    replace X0 := Lib.hid (X0.out.sm hS (by omega))
    replace CX0 := Lib.hid (CX0.out.sm hS (by omega))
    replace FB := Lib.hid (below_step FB.out FN hb8)
    have hzw8_ := hb8.size
    replace FN := Nat.le_trans FN hzw8_
    clear hS hb8
    have hS := Sm.alloc w8_ (.cells #[.string r0.f0, .int .i64 r0.f1] 41)
    replace BX0 := Lib.hid (BX0.out.sm hS (by omega))
    replace RS0 := Lib.hid (RS0.out.sm hS (by omega))
    replace X0 := Lib.hid (X0.out.sm hS (by omega))
    replace CX0 := Lib.hid (CX0.out.sm hS (by omega))
    have RG0 := Lib.hid (BoxAt.new w8_ #[.string r0.f0, .int .i64 r0.f1] 41 w8_.heap.size rfl)
    replace FB := Lib.hid (below_new FB.out FN (.cells #[.string r0.f0, .int .i64 r0.f1] 41))
    have hq9 : (w8_.alloc (.cells #[.string r0.f0, .int .i64 r0.f1] 41)).heap.size = w8_.heap.size + 1 := by simp
    replace FN : w.heap.size ≤ (w8_.alloc (.cells #[.string r0.f0, .int .i64 r0.f1] 41)).heap.size := by omega
    clear hS
    have xRG00 := RG0.out 0 _ rfl
    have xRG01 := RG0.out 1 _ rfl
    have xRS00 := RS0.out 0 _ rfl
    have xRS01 := RS0.out 1 _ rfl
    go_wp2_with fail
    refine (EQ0.out _).mono ?_
    rintro e w10_ ⟨rfl, hb10⟩
    clear xRG00 xRG01
    clear xRS00 xRS01
    have hS := Sm.of_below hb10
    replace BX0 := Lib.hid (BX0.out.sm hS (by omega))
    replace RS0 := Lib.hid (RS0.out.sm hS (by omega))
    replace X0 := Lib.hid (X0.out.sm hS (by omega))
    replace CX0 := Lib.hid (CX0.out.sm hS (by omega))
    replace RG0 := Lib.hid (RG0.out.sm hS (by omega))
    replace FB := Lib.hid (below_step FB.out FN hb10)
    have hzw10_ := hb10.size
    replace FN := Nat.le_trans FN hzw10_
    clear hS hb10
    have hlCX0 := CX0.out.lt (by simp)
    have hlBX0 := BX0.out.lt (by simp)
    have xCX00 := CX0.out 0 _ rfl
    have xCX01 := CX0.out 1 _ rfl
    have xCX02 := CX0.out 2 _ rfl
    have xCX03 := CX0.out 3 _ rfl
    have xCX04 := CX0.out 4 _ rfl
    have xBX00 := BX0.out 0 _ rfl
    have xBX01 := BX0.out 1 _ rfl
    have xBX02 := BX0.out 2 _ rfl
    have xBX03 := BX0.out 3 _ rfl
    have xBX04 := BX0.out 4 _ rfl
    have KS := Lib.hid (fun w' (hb : Below w10_.heap.size w10_ w') => (show (w'.cell? ⟨w6_.heap.size, 0, none⟩ = some (.int .i64 x0.f0) ∧ w'.cell? ⟨w6_.heap.size, 1, none⟩ = some (.int .i64 x0.f1) ∧ w'.cell? ⟨w6_.heap.size, 2, none⟩ = some (.int .i64 x0.f2) ∧ w'.cell? ⟨w6_.heap.size, 3, none⟩ = some (.int .i64 x0.f3) ∧ w'.cell? ⟨w6_.heap.size, 4, none⟩ = some (.slice (some ⟨g6, 0, none⟩) x0.f4.length x0.f4.length)) ∧ (w'.cell? ⟨w.heap.size, 0, none⟩ = some (.int .i64 x0.f0) ∧ w'.cell? ⟨w.heap.size, 1, none⟩ = some (.int .i64 x0.f1) ∧ w'.cell? ⟨w.heap.size, 2, none⟩ = some (.int .i64 x0.f2) ∧ w'.cell? ⟨w.heap.size, 3, none⟩ = some (.int .i64 x0.f3) ∧ w'.cell? ⟨w.heap.size, 4, none⟩ = some (.slice s0 x0.f4.length cap0)) from ⟨⟨(CX0.out.below hb hlCX0) 0 _ rfl, (CX0.out.below hb hlCX0) 1 _ rfl, (CX0.out.below hb hlCX0) 2 _ rfl, (CX0.out.below hb hlCX0) 3 _ rfl, (CX0.out.below hb hlCX0) 4 _ rfl⟩, ⟨(BX0.out.below hb hlBX0) 0 _ rfl, (BX0.out.below hb hlBX0) 1 _ rfl, (BX0.out.below hb hlBX0) 2 _ rfl, (BX0.out.below hb hlBX0) 3 _ rfl, (BX0.out.below hb hlBX0) 4 _ rfl⟩⟩))
    have hks : (w10_.cell? ⟨w6_.heap.size, 0, none⟩ = some (.int .i64 x0.f0) ∧ w10_.cell? ⟨w6_.heap.size, 1, none⟩ = some (.int .i64 x0.f1) ∧ w10_.cell? ⟨w6_.heap.size, 2, none⟩ = some (.int .i64 x0.f2) ∧ w10_.cell? ⟨w6_.heap.size, 3, none⟩ = some (.int .i64 x0.f3) ∧ w10_.cell? ⟨w6_.heap.size, 4, none⟩ = some (.slice (some ⟨g6, 0, none⟩) x0.f4.length x0.f4.length)) ∧ (w10_.cell? ⟨w.heap.size, 0, none⟩ = some (.int .i64 x0.f0) ∧ w10_.cell? ⟨w.heap.size, 1, none⟩ = some (.int .i64 x0.f1) ∧ w10_.cell? ⟨w.heap.size, 2, none⟩ = some (.int .i64 x0.f2) ∧ w10_.cell? ⟨w.heap.size, 3, none⟩ = some (.int .i64 x0.f3) ∧ w10_.cell? ⟨w.heap.size, 4, none⟩ = some (.slice s0 x0.f4.length cap0)) := KS.out _ (Below.refl _ _)
    have FBX := Lib.hid (fun w' (hb : Below w10_.heap.size w10_ w') => (show Below w.heap.size w w' from FB.out.trans (hb.mono FN)))
    have HC := Lib.hid (show Below w10_.heap.size w10_ w10_.drew from (Below.refl _ _).drew)
    replace X0 := Lib.hid X0.out.drew
    go_wp2
    go_region_held3 (fun w' => (w'.cell? ⟨w6_.heap.size, 0, none⟩ = some (.int .i64 x0.f0) ∧ w'.cell? ⟨w6_.heap.size, 1, none⟩ = some (.int .i64 x0.f1) ∧ w'.cell? ⟨w6_.heap.size, 2, none⟩ = some (.int .i64 x0.f2) ∧ w'.cell? ⟨w6_.heap.size, 3, none⟩ = some (.int .i64 x0.f3) ∧ w'.cell? ⟨w6_.heap.size, 4, none⟩ = some (.slice (some ⟨g6, 0, none⟩) x0.f4.length x0.f4.length)) ∧ (w'.cell? ⟨w.heap.size, 0, none⟩ = some (.int .i64 x0.f0) ∧ w'.cell? ⟨w.heap.size, 1, none⟩ = some (.int .i64 x0.f1) ∧ w'.cell? ⟨w.heap.size, 2, none⟩ = some (.int .i64 x0.f2) ∧ w'.cell? ⟨w.heap.size, 3, none⟩ = some (.int .i64 x0.f3) ∧ w'.cell? ⟨w.heap.size, 4, none⟩ = some (.slice s0 x0.f4.length cap0)))
      (first | (with_reducible exact KS.out _ HC.out) | go_keep)
      (first
        | (go_at_call 17; ((with_reducible refine (TO0.out _ (FBX.out _ HC.out)).mono ?_); rintro e wt0 ⟨gt0, rfl, hrowt0, hgt0, hbt0⟩; (try (replace X0 := Lib.hid (X0.out.sm (Sm.of_below hbt0) (by omega)))); (try (replace Y0 := Lib.hid (Y0.out.sm (Sm.of_below hbt0) (by omega)))); replace HC := Lib.hid (HC.out.trans (hbt0.mono HC.out.size)); have Y0 := Lib.hid (hrowt0.sli hgt0)))
        | (go_at_call 19; ((with_reducible refine (EX0.out _ _ _ _ _ X0.out.sl Y0.out.sl).mono ?_); rintro e w11_ ⟨rfl, hb11⟩; have hbf11 := HC.out.size; (try (replace X0 := Lib.hid (X0.out.sm (Sm.of_below hb11) (by omega)))); (try (replace Y0 := Lib.hid (Y0.out.sm (Sm.of_below hb11) (by omega)))); replace HC := Lib.hid (HC.out.trans (hb11.mono HC.out.size)); skip))
        | fail)
    all_goals
      replace CX0 := Lib.hid (CX0.out.below HC.out hlCX0)
      replace BX0 := Lib.hid (BX0.out.below HC.out hlBX0)
      replace RS0 := Lib.hid (RS0.out.sm (Sm.of_below HC.out) (by omega))
      replace RG0 := Lib.hid (RG0.out.sm (Sm.of_below HC.out) (by omega))
      replace FB := Lib.hid (FBX.out _ HC.out)
      have hzz11 := HC.out.size
      replace FN := Nat.le_trans FN hzz11
      clear hks KS HC FBX hlCX0 hlBX0
      clear hbf11
      clear xCX00 xCX01 xCX02 xCX03 xCX04
      clear xBX00 xBX01 xBX02 xBX03 xBX04
      clear hrowt0 hgt0
      clear hbt0
      clear Y0
      go_wp2
      go_ret
      exact ⟨rfl, FB.out⟩
end Go.Proofs.Ytpcfhfnlpcpofaa.fnExactSectorAt
