/- FnExactGuessCell: the law's walk. -/
import Derived.Test.YtgmnaikgjfbgkabSm
import Derived.Test.YtgmnaikgjfbgkabSpecGuess
import Derived.Test.YtgmnaikgjfbgkabOpenFlux
namespace Go.Proofs.Ytgmnaikgjfbgkab.fnExactGuessCell
open Go.RowKit
set_option linter.unusedVariables false
set_option maxHeartbeats 8000000 in
theorem walk (c f : Int) (a : Option Addr) (zs : List Int) (cap : Nat) (w : World) (h0 : FluxArg w a zs) :
    Calls Try.prog 10 #[.agg #[.int .i64 c, .int .i64 f, .slice a zs.length cap]] w fun e w' => e = .returned (.bool true) ∧ Below w.heap.size w w' := by
  obtain ⟨hm, hsl⟩ := h0
  by_cases hl : zs.length ≤ 1048576
  case neg =>
    have HC := Lib.hid (fun w' => szFlux_no c f a zs.length cap 1048576 w' (Nat.le_refl _) hm (by omega))
    clear hsl
    go_enter Try.func10, Try.ntmps10
    go_wp2_with fail
    refine (HC.out _).mono ?_
    rintro e w1 ⟨rfl, hb1⟩
    go_wp2
    go_ret
    exact ⟨rfl, Below.trans (show Below w.heap.size w _ from (Below.refl _ _).alloc (Nat.le_refl _) _) (hb1.mono (by simp))⟩
  case pos =>
    have hR := (trivial : True)
    obtain ⟨left, hleft⟩ : ∃ m, 1048576 - zs.length = m := ⟨_, rfl⟩
    have hsz := fun w' => szFlux_yes c f a zs.length cap 1048576 w' (Nat.le_refl _) hl
    rw [hleft] at hsz
    have hleft0 : ¬ ((left : Int) < 0) := by omega
    have hto := fun w' (hb : Below w.heap.size w w') => toFlux_any c f a zs cap w' hl (hsl.below hb (Nat.le_refl _))
    have hsp := fun g w' (h : SlA w' (some ⟨g, 0, none⟩) zs) => specGuessCell_any c f (some ⟨g, 0, none⟩) zs.length zs hl w' h
    have him := fun g w' (h : SlA w' (some ⟨g, 0, none⟩) zs) => guessCell_any c f (some ⟨g, 0, none⟩) zs.length zs hl w' h
    have hex := fun g g' w' (h1 : SlA w' (some ⟨g, 0, none⟩) zs) (h2 : SlA w' (some ⟨g', 0, none⟩) zs) => eqFlux_any c f (some ⟨g, 0, none⟩) zs zs.length c f (some ⟨g', 0, none⟩) zs zs.length w' (by omega) (by omega) h1 h2
    have hex1 : fluxEq c f zs c f zs = true := by simp [fluxEq]
    rw [hex1] at hex
    have hmx := fun g B C w' hC h => markFlux_sm c f (some ⟨g, 0, none⟩) zs zs.length 1 B C w' (by omega) (by omega) hC h
    generalize (guessVal c f zs).1 = r0 at hsp him
    have hvq0 : (r0 != r0) = false := by simp
    generalize (guessVal c f zs).2 = r1 at hsp him
    have hvq1 : (r1 != r1) = false := by simp
    have hsp2 := hsp
    have him2 := him
    have SZ := Lib.hid hsz
    have TO := Lib.hid hto
    have SP := Lib.hid hsp2
    have IM := Lib.hid him2
    have EX := Lib.hid hex
    clear hsz hto hsp him hsp2 him2 hex hmx hsl hex1
    go_enter Try.func10, Try.ntmps10
    have BX := Lib.hid (FluxAt.new w c f a zs.length cap 44 w.heap.size rfl)
    have FB := Lib.hid (show Below w.heap.size w (w.alloc (.cells #[.int .i64 c, .int .i64 f, .slice a zs.length cap] 44)) from (Below.refl _ _).alloc (Nat.le_refl _) _)
    have hq0 : (w.alloc (.cells #[.int .i64 c, .int .i64 f, .slice a zs.length cap] 44)).heap.size = w.heap.size + 1 := by simp
    have FN : w.heap.size ≤ (w.alloc (.cells #[.int .i64 c, .int .i64 f, .slice a zs.length cap] 44)).heap.size := by omega
    go_wp2_with fail
    refine (SZ.out _).mono ?_
    rintro e w1 ⟨rfl, hb1⟩
    have hS := Sm.of_below hb1
    replace BX := Lib.hid (BX.out.sm hS (by omega))
    replace FB := Lib.hid (below_step FB.out FN hb1)
    have hz1 := hb1.size
    replace FN := Nat.le_trans FN hz1
    clear hS
    obtain ⟨xBX0, xBX1, xBX2⟩ := BX.out
    go_wp2_with fail
    refine (TO.out _ FB.out).mono ?_
    rintro e w2 ⟨g2, rfl, hrow2, hg2, hb2⟩
    clear xBX0 xBX1 xBX2
    have hS := Sm.of_below hb2
    replace BX := Lib.hid (BX.out.sm hS (by omega))
    replace FB := Lib.hid (below_step FB.out FN hb2)
    have hz2 := hb2.size
    replace FN := Nat.le_trans FN hz2
    clear hS
    have R2 := Lib.hid (hrow2.sli hg2)
    clear hrow2
    go_wp2_with fail
    refine (SP.out _ _ R2.out.sl).mono ?_
    rintro e w3 ⟨rfl, hb3⟩
    have hS := Sm.of_below hb3
    replace BX := Lib.hid (BX.out.sm hS (by omega))
    replace R2 := Lib.hid (R2.out.sm hS (by omega))
    replace FB := Lib.hid (below_step FB.out FN hb3)
    have hz3 := hb3.size
    replace FN := Nat.le_trans FN hz3
    clear hS
    clear R2
    obtain ⟨xBX0, xBX1, xBX2⟩ := BX.out
    go_wp2_with fail
    refine (TO.out _ FB.out).mono ?_
    rintro e w4 ⟨g4, rfl, hrow4, hg4, hb4⟩
    clear xBX0 xBX1 xBX2
    have hS := Sm.of_below hb4
    replace BX := Lib.hid (BX.out.sm hS (by omega))
    replace FB := Lib.hid (below_step FB.out FN hb4)
    have hz4 := hb4.size
    replace FN := Nat.le_trans FN hz4
    clear hS
    have R4 := Lib.hid (hrow4.sli hg4)
    clear hrow4
    have hS := Sm.alloc w4 (.cells #[.int .i64 c, .int .i64 f, .slice (some ⟨g4, 0, none⟩) zs.length zs.length] 48)
    replace BX := Lib.hid (BX.out.sm hS (by omega))
    replace R4 := Lib.hid (R4.out.sm hS (by omega))
    have CX := Lib.hid (FluxAt.new w4 c f (some ⟨g4, 0, none⟩) zs.length zs.length 48 w4.heap.size rfl)
    replace FB := Lib.hid (below_new FB.out FN (.cells #[.int .i64 c, .int .i64 f, .slice (some ⟨g4, 0, none⟩) zs.length zs.length] 48))
    have hq4 : (w4.alloc (.cells #[.int .i64 c, .int .i64 f, .slice (some ⟨g4, 0, none⟩) zs.length zs.length] 48)).heap.size = w4.heap.size + 1 := by simp
    replace FN : w.heap.size ≤ (w4.alloc (.cells #[.int .i64 c, .int .i64 f, .slice (some ⟨g4, 0, none⟩) zs.length zs.length] 48)).heap.size := by omega
    clear hS
    obtain ⟨xCX0, xCX1, xCX2⟩ := CX.out
    go_wp2_with fail
    refine (IM.out _ _ R4.out.sl).mono ?_
    rintro e w5 ⟨rfl, hb5⟩
    clear xCX0 xCX1 xCX2
    have hS := Sm.of_below hb5
    replace BX := Lib.hid (BX.out.sm hS (by omega))
    replace R4 := Lib.hid (R4.out.sm hS (by omega))
    replace CX := Lib.hid (CX.out.sm hS (by omega))
    replace FB := Lib.hid (below_step FB.out FN hb5)
    have hz5 := hb5.size
    replace FN := Nat.le_trans FN hz5
    clear hS
    obtain ⟨xCX0, xCX1, xCX2⟩ := CX.out
    obtain ⟨xBX0, xBX1, xBX2⟩ := BX.out
    have hlx := CX.out.lt
    have hlb := BX.out.lt
    have KS := Lib.hid (fun w' (hb : Below w5.heap.size w5 w') => (show (w'.cell? ⟨w4.heap.size, 0, none⟩ = some (.int .i64 c) ∧ w'.cell? ⟨w4.heap.size, 1, none⟩ = some (.int .i64 f) ∧ w'.cell? ⟨w4.heap.size, 2, none⟩ = some (.slice (some ⟨g4, 0, none⟩) zs.length zs.length)) ∧ (w'.cell? ⟨w.heap.size, 0, none⟩ = some (.int .i64 c) ∧ w'.cell? ⟨w.heap.size, 1, none⟩ = some (.int .i64 f) ∧ w'.cell? ⟨w.heap.size, 2, none⟩ = some (.slice a zs.length cap)) from ⟨CX.out.below hb hlx, BX.out.below hb hlb⟩))
    have hks : (w5.cell? ⟨w4.heap.size, 0, none⟩ = some (.int .i64 c) ∧ w5.cell? ⟨w4.heap.size, 1, none⟩ = some (.int .i64 f) ∧ w5.cell? ⟨w4.heap.size, 2, none⟩ = some (.slice (some ⟨g4, 0, none⟩) zs.length zs.length)) ∧ (w5.cell? ⟨w.heap.size, 0, none⟩ = some (.int .i64 c) ∧ w5.cell? ⟨w.heap.size, 1, none⟩ = some (.int .i64 f) ∧ w5.cell? ⟨w.heap.size, 2, none⟩ = some (.slice a zs.length cap)) := KS.out _ (Below.refl _ _)
    have TO2 := Lib.hid (TO.out w5.drew (show Below w.heap.size w w5.drew from FB.out.drew))
    have EX2 := Lib.hid (fun w' (hb : Below w5.heap.size w5 w') g (hr : RowAt w' g zs) => EX.out g4 g w' ((R4.out.sm (Sm.of_below hb) (by omega)).sl) hr.sl)
    go_wp2
    go_region_held3 (fun w' => (w'.cell? ⟨w4.heap.size, 0, none⟩ = some (.int .i64 c) ∧ w'.cell? ⟨w4.heap.size, 1, none⟩ = some (.int .i64 f) ∧ w'.cell? ⟨w4.heap.size, 2, none⟩ = some (.slice (some ⟨g4, 0, none⟩) zs.length zs.length)) ∧ (w'.cell? ⟨w.heap.size, 0, none⟩ = some (.int .i64 c) ∧ w'.cell? ⟨w.heap.size, 1, none⟩ = some (.int .i64 f) ∧ w'.cell? ⟨w.heap.size, 2, none⟩ = some (.slice a zs.length cap)))
      (first | exact kA | exact kB | go_keep)
      (first
        | (go_at_call 28; refine TO2.out.mono ?_; rintro e wa ⟨ga, rfl, hrowa, hga, hba0⟩; have hba := below_undrew hba0; have kA := KS.out wa hba)
        | (go_at_call 31; refine (EX2.out wa hba ga hrowa).mono ?_; rintro e wb ⟨rfl, hbb⟩; have kB := KS.out wb (hba.trans (hbb.mono hba.size))))
    all_goals
      have hbc : Below w5.heap.size w5 wb := hba.trans (hbb.mono hba.size)
      clear hks kA kB hba hba0 hbb hrowa hga xCX0 xCX1 xCX2 xBX0 xBX1 xBX2 TO2 EX2 KS hlx hlb
      have hS := Sm.of_below hbc
      replace BX := Lib.hid (BX.out.sm hS (by omega))
      replace R4 := Lib.hid (R4.out.sm hS (by omega))
      replace CX := Lib.hid (CX.out.sm hS (by omega))
      replace FB := Lib.hid (below_step FB.out FN hbc)
      have hzc := hbc.size
      replace FN := Nat.le_trans FN hzc
      clear hS hbc
      go_wp2
      go_ret
      exact ⟨rfl, FB.out⟩
end Go.Proofs.Ytgmnaikgjfbgkab.fnExactGuessCell
