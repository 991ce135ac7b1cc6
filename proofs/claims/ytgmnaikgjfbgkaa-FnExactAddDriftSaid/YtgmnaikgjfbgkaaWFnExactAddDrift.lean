/- FnExactAddDrift: the law's walk. -/
import Derived.Test.YtgmnaikgjfbgkaaSm
import Derived.Test.YtgmnaikgjfbgkaaSpecDrift
import Derived.Test.YtgmnaikgjfbgkaaOpenFlux
namespace Go.Proofs.Ytgmnaikgjfbgkaa.fnExactAddDrift
open Go.RowKit
set_option linter.unusedVariables false
set_option maxHeartbeats 8000000 in
theorem walk (c f : Int) (a : Option Addr) (zs : List Int) (cap : Nat) (a1 : Int) (w : World) (h0 : FluxArg w a zs) (_ : (Lit.int .i64 a1).wf = true) :
    Calls Try.prog 7 #[.agg #[.int .i64 c, .int .i64 f, .slice a zs.length cap], .int .i64 a1] w fun e w' => e = .returned (.bool true) ∧ Below w.heap.size w w' := by
  obtain ⟨hm, hsl⟩ := h0
  by_cases hl : zs.length ≤ 1048576
  case neg =>
    have HC := Lib.hid (fun w' => szFlux_no c f a zs.length cap 1048576 w' (Nat.le_refl _) hm (by omega))
    clear hsl
    go_enter Try.func7, Try.ntmps7
    go_wp2_with fail
    refine (HC.out _).mono ?_
    rintro e w1 ⟨rfl, hb1⟩
    go_wp2
    go_ret
    exact ⟨rfl, Below.trans (show Below w.heap.size w _ from (Below.refl _ _).alloc (Nat.le_refl _) _) (hb1.mono (by simp))⟩
  case pos =>
    have hR := driftVal_len c f zs a1 hl
    obtain ⟨left, hleft⟩ : ∃ m, 1048576 - zs.length = m := ⟨_, rfl⟩
    have hsz := fun w' => szFlux_yes c f a zs.length cap 1048576 w' (Nat.le_refl _) hl
    rw [hleft] at hsz
    have hleft0 : ¬ ((left : Int) < 0) := by omega
    have hto := fun w' (hb : Below w.heap.size w w') => toFlux_any c f a zs cap w' hl (hsl.below hb (Nat.le_refl _))
    have hsp := fun g w' (h : SlA w' (some ⟨g, 0, none⟩) zs) => specAddDrift_any c f (some ⟨g, 0, none⟩) zs.length zs a1 hl w' h
    have him := fun g w' (h : SlA w' (some ⟨g, 0, none⟩) zs) => addDrift_any c f (some ⟨g, 0, none⟩) zs.length zs a1 hl w' h
    have hex := fun g g' w' (h1 : SlA w' (some ⟨g, 0, none⟩) zs) (h2 : SlA w' (some ⟨g', 0, none⟩) zs) => eqFlux_any c f (some ⟨g, 0, none⟩) zs zs.length c f (some ⟨g', 0, none⟩) zs zs.length w' (by omega) (by omega) h1 h2
    have hex1 : fluxEq c f zs c f zs = true := by simp [fluxEq]
    rw [hex1] at hex
    have hmx := fun g B C w' hC h => markFlux_sm c f (some ⟨g, 0, none⟩) zs zs.length 1 B C w' (by omega) (by omega) hC h
    generalize driftVal c f zs a1 = r at *
    obtain ⟨rc, rf, rs, code⟩ := r
    have hsp2 := fun g w' (h : SlA w' (some ⟨g, 0, none⟩) zs) => (hsp g w' h).mono (fun e w'' h => (show ∃ a cap, e = .returned (.tuple #[.agg #[.int .i64 rc, .int .i64 rf, .slice a rs.length cap], .int .i64 code]) ∧ SlO w'' w'.heap.size a rs ∧ Below w'.heap.size w' w'' from h))
    have him2 := fun g w' (h : SlA w' (some ⟨g, 0, none⟩) zs) => (him g w' h).mono (fun e w'' h => (show ∃ a cap, e = .returned (.tuple #[.agg #[.int .i64 rc, .int .i64 rf, .slice a rs.length cap], .int .i64 code]) ∧ SlO w'' w'.heap.size a rs ∧ Below w'.heap.size w' w'' from h))
    have hcc : (code != code) = false := by simp
    have hc1 : (code == code) = true := by simp
    dsimp only at hR
    have heq := fun x d y d' w' (h1 : SlA w' x rs) (h2 : SlA w' y rs) => eqFlux_any rc rf x rs d rc rf y rs d' w' (by omega) (by omega) h1 h2
    have heq1 : fluxEq rc rf rs rc rf rs = true := by simp [fluxEq]
    rw [heq1] at heq
    have hmk := fun x d B C w' hC h => markFlux_sm rc rf x rs d 1 B C w' (by omega) (by omega) hC h
    have hhd := fun x d w' (h : SlA w' x (fromK ((1 : Nat) : Int) rs.length)) => heldFlux_any rc rf x rs.length d 1 w' (by omega) (by omega) h
    have hk1 : 1 + rs.length ≤ 1048577 := by omega
    have hx1 : 1 + zs.length ≤ 1048577 := by omega
    unfold Marked at hmk hmx
    obtain ⟨kr, hkr⟩ : ∃ m, 1 + rs.length = m := ⟨_, rfl⟩
    obtain ⟨kx, hkx⟩ : ∃ m, 1 + zs.length = m := ⟨_, rfl⟩
    rw [hkr] at hmk hhd hk1
    rw [hkx] at hmx hx1
    have hkk : ((kr : Int) != (kr : Int)) = false := by simp
    have hkr0 : ¬ ((kr : Int) < 0) := by omega
    have hkx0 : ¬ ((kx : Int) < 0) := by omega
    have SZ := Lib.hid hsz
    have TO := Lib.hid hto
    have SP := Lib.hid hsp2
    have IM := Lib.hid him2
    have EX := Lib.hid hex
    have MX := Lib.hid hmx
    have EQ := Lib.hid heq
    have MK := Lib.hid hmk
    have HD := Lib.hid hhd
    clear hsz hto hsp him hsp2 him2 hex hmx heq hmk hhd hsl hex1 heq1
    go_enter Try.func7, Try.ntmps7
    have BX := Lib.hid (FluxAt.new w c f a zs.length cap 35 w.heap.size rfl)
    have FB := Lib.hid (show Below w.heap.size w (w.alloc (.cells #[.int .i64 c, .int .i64 f, .slice a zs.length cap] 35)) from (Below.refl _ _).alloc (Nat.le_refl _) _)
    have hq0 : (w.alloc (.cells #[.int .i64 c, .int .i64 f, .slice a zs.length cap] 35)).heap.size = w.heap.size + 1 := by simp
    have FN : w.heap.size ≤ (w.alloc (.cells #[.int .i64 c, .int .i64 f, .slice a zs.length cap] 35)).heap.size := by omega
    go_wp2_with fail
    refine (SZ.out _).mono ?_
    rintro e w1 ⟨rfl, hb1⟩
    have hS := Sm.of_below hb1
    replace BX := Lib.hid (BX.out.sm hS (by omega))
    replace FB := Lib.hid (below_step FB.out FN hb1)
    have hz1 := hb1.size
    replace FN := Nat.le_trans FN hz1
    clear hS
    obtain ⟨xBX0, xBX1, xBX2⟩ := BX.out
    go_wp2_with fail
    refine (TO.out _ FB.out).mono ?_
    rintro e w2 ⟨g2, rfl, hrow2, hg2, hb2⟩
    clear xBX0 xBX1 xBX2
    have hS := Sm.of_below hb2
    replace BX := Lib.hid (BX.out.sm hS (by omega))
    replace FB := Lib.hid (below_step FB.out FN hb2)
    have hz2 := hb2.size
    replace FN := Nat.le_trans FN hz2
    clear hS
    have R2 := Lib.hid (hrow2.sli hg2)
    clear hrow2
    go_wp2_with fail
    refine (SP.out _ _ R2.out.sl).mono ?_
    rintro e w3 ⟨s3, d3, rfl, hso3, hb3⟩
    have hS := Sm.of_below hb3
    replace BX := Lib.hid (BX.out.sm hS (by omega))
    replace R2 := Lib.hid (R2.out.sm hS (by omega))
    replace FB := Lib.hid (below_step FB.out FN hb3)
    have hz3 := hb3.size
    replace FN := Nat.le_trans FN hz3
    clear hS
    have RS := Lib.hid hso3.within
    clear hso3
    clear R2
    have hS := Sm.alloc w3 (.cells #[.int .i64 rc, .int .i64 rf, .slice s3 rs.length d3] 39)
    replace BX := Lib.hid (BX.out.sm hS (by omega))
    replace RS := Lib.hid (RS.out.sm hS (by omega))
    have CS := Lib.hid (FluxAt.new w3 rc rf s3 rs.length d3 39 w3.heap.size rfl)
    replace FB := Lib.hid (below_new FB.out FN (.cells #[.int .i64 rc, .int .i64 rf, .slice s3 rs.length d3] 39))
    have hq3 : (w3.alloc (.cells #[.int .i64 rc, .int .i64 rf, .slice s3 rs.length d3] 39)).heap.size = w3.heap.size + 1 := by simp
    replace FN : w.heap.size ≤ (w3.alloc (.cells #[.int .i64 rc, .int .i64 rf, .slice s3 rs.length d3] 39)).heap.size := by omega
    clear hS
    obtain ⟨xBX0, xBX1, xBX2⟩ := BX.out
    go_wp2_with fail
    refine (TO.out _ FB.out).mono ?_
    rintro e w4 ⟨g4, rfl, hrow4, hg4, hb4⟩
    clear xBX0 xBX1 xBX2
    have hS := Sm.of_below hb4
    replace BX := Lib.hid (BX.out.sm hS (by omega))
    replace RS := Lib.hid (RS.out.sm hS (by omega))
    replace CS := Lib.hid (CS.out.sm hS (by omega))
    replace FB := Lib.hid (below_step FB.out FN hb4)
    have hz4 := hb4.size
    replace FN := Nat.le_trans FN hz4
    clear hS
    have R4 := Lib.hid (hrow4.sli hg4)
    clear hrow4
    have hS := Sm.alloc w4 (.cells #[.int .i64 c, .int .i64 f, .slice (some ⟨g4, 0, none⟩) zs.length zs.length] 39)
    replace BX := Lib.hid (BX.out.sm hS (by omega))
    replace RS := Lib.hid (RS.out.sm hS (by omega))
    replace CS := Lib.hid (CS.out.sm hS (by omega))
    replace R4 := Lib.hid (R4.out.sm hS (by omega))
    have CX := Lib.hid (FluxAt.new w4 c f (some ⟨g4, 0, none⟩) zs.length zs.length 39 w4.heap.size rfl)
    replace FB := Lib.hid (below_new FB.out FN (.cells #[.int .i64 c, .int .i64 f, .slice (some ⟨g4, 0, none⟩) zs.length zs.length] 39))
    have hq4 : (w4.alloc (.cells #[.int .i64 c, .int .i64 f, .slice (some ⟨g4, 0, none⟩) zs.length zs.length] 39)).heap.size = w4.heap.size + 1 := by simp
    replace FN : w.heap.size ≤ (w4.alloc (.cells #[.int .i64 c, .int .i64 f, .slice (some ⟨g4, 0, none⟩) zs.length zs.length] 39)).heap.size := by omega
    clear hS
    obtain ⟨xCX0, xCX1, xCX2⟩ := CX.out
    go_wp2_with fail
    refine (IM.out _ _ R4.out.sl).mono ?_
    rintro e w5 ⟨s5, d5, rfl, hso5, hb5⟩
    clear xCX0 xCX1 xCX2
    have hS := Sm.of_below hb5
    replace BX := Lib.hid (BX.out.sm hS (by omega))
    replace RS := Lib.hid (RS.out.sm hS (by omega))
    replace CS := Lib.hid (CS.out.sm hS (by omega))
    replace R4 := Lib.hid (R4.out.sm hS (by omega))
    replace CX := Lib.hid (CX.out.sm hS (by omega))
    replace FB := Lib.hid (below_step FB.out FN hb5)
    have hz5 := hb5.size
    replace FN := Nat.le_trans FN hz5
    clear hS
    have RG := Lib.hid hso5.within
    clear hso5
    have hS := Sm.alloc w5 (.cells #[.int .i64 rc, .int .i64 rf, .slice s5 rs.length d5] 39)
    replace BX := Lib.hid (BX.out.sm hS (by omega))
    replace RS := Lib.hid (RS.out.sm hS (by omega))
    replace CS := Lib.hid (CS.out.sm hS (by omega))
    replace R4 := Lib.hid (R4.out.sm hS (by omega))
    replace CX := Lib.hid (CX.out.sm hS (by omega))
    replace RG := Lib.hid (RG.out.sm hS (by omega))
    have CG := Lib.hid (FluxAt.new w5 rc rf s5 rs.length d5 39 w5.heap.size rfl)
    replace FB := Lib.hid (below_new FB.out FN (.cells #[.int .i64 rc, .int .i64 rf, .slice s5 rs.length d5] 39))
    have hq5 : (w5.alloc (.cells #[.int .i64 rc, .int .i64 rf, .slice s5 rs.length d5] 39)).heap.size = w5.heap.size + 1 := by simp
    replace FN : w.heap.size ≤ (w5.alloc (.cells #[.int .i64 rc, .int .i64 rf, .slice s5 rs.length d5] 39)).heap.size := by omega
    clear hS
    obtain ⟨xCG0, xCG1, xCG2⟩ := CG.out
    obtain ⟨xCS0, xCS1, xCS2⟩ := CS.out
    go_wp2_with fail
    refine (EQ.out _ _ _ _ _ RG.out.sl RS.out.sl).mono ?_
    rintro e w6 ⟨rfl, hb6⟩
    clear xCG0 xCG1 xCG2
    clear xCS0 xCS1 xCS2
    have hS := Sm.of_below hb6
    replace BX := Lib.hid (BX.out.sm hS (by omega))
    replace RS := Lib.hid (RS.out.sm hS (by omega))
    replace CS := Lib.hid (CS.out.sm hS (by omega))
    replace R4 := Lib.hid (R4.out.sm hS (by omega))
    replace CX := Lib.hid (CX.out.sm hS (by omega))
    replace RG := Lib.hid (RG.out.sm hS (by omega))
    replace CG := Lib.hid (CG.out.sm hS (by omega))
    replace FB := Lib.hid (below_step FB.out FN hb6)
    have hz6 := hb6.size
    replace FN := Nat.le_trans FN hz6
    clear hS
    obtain ⟨xCX0, xCX1, xCX2⟩ := CX.out
    obtain ⟨xBX0, xBX1, xBX2⟩ := BX.out
    have hlx := CX.out.lt
    have hlb := BX.out.lt
    have KS := Lib.hid (fun w' (hb : Below w6.heap.size w6 w') => (show (w'.cell? ⟨w4.heap.size, 0, none⟩ = some (.int .i64 c) ∧ w'.cell? ⟨w4.heap.size, 1, none⟩ = some (.int .i64 f) ∧ w'.cell? ⟨w4.heap.size, 2, none⟩ = some (.slice (some ⟨g4, 0, none⟩) zs.length zs.length)) ∧ (w'.cell? ⟨w.heap.size, 0, none⟩ = some (.int .i64 c) ∧ w'.cell? ⟨w.heap.size, 1, none⟩ = some (.int .i64 f) ∧ w'.cell? ⟨w.heap.size, 2, none⟩ = some (.slice a zs.length cap)) from ⟨CX.out.below hb hlx, BX.out.below hb hlb⟩))
    have hks : (w6.cell? ⟨w4.heap.size, 0, none⟩ = some (.int .i64 c) ∧ w6.cell? ⟨w4.heap.size, 1, none⟩ = some (.int .i64 f) ∧ w6.cell? ⟨w4.heap.size, 2, none⟩ = some (.slice (some ⟨g4, 0, none⟩) zs.length zs.length)) ∧ (w6.cell? ⟨w.heap.size, 0, none⟩ = some (.int .i64 c) ∧ w6.cell? ⟨w.heap.size, 1, none⟩ = some (.int .i64 f) ∧ w6.cell? ⟨w.heap.size, 2, none⟩ = some (.slice a zs.length cap)) := KS.out _ (Below.refl _ _)
    have TO2 := Lib.hid (TO.out w6.drew (show Below w.heap.size w w6.drew from FB.out.drew))
    have EX2 := Lib.hid (fun w' (hb : Below w6.heap.size w6 w') g (hr : RowAt w' g zs) => EX.out g4 g w' ((R4.out.sm (Sm.of_below hb) (by omega)).sl) hr.sl)
    go_wp2
    go_region_held3 (fun w' => (w'.cell? ⟨w4.heap.size, 0, none⟩ = some (.int .i64 c) ∧ w'.cell? ⟨w4.heap.size, 1, none⟩ = some (.int .i64 f) ∧ w'.cell? ⟨w4.heap.size, 2, none⟩ = some (.slice (some ⟨g4, 0, none⟩) zs.length zs.length)) ∧ (w'.cell? ⟨w.heap.size, 0, none⟩ = some (.int .i64 c) ∧ w'.cell? ⟨w.heap.size, 1, none⟩ = some (.int .i64 f) ∧ w'.cell? ⟨w.heap.size, 2, none⟩ = some (.slice a zs.length cap)))
      (first | exact kA | exact kB | go_keep)
      (first
        | (go_at_call 22; refine TO2.out.mono ?_; rintro e wa ⟨ga, rfl, hrowa, hga, hba0⟩; have hba := below_undrew hba0; have kA := KS.out wa hba)
        | (go_at_call 24; refine (EX2.out wa hba ga hrowa).mono ?_; rintro e wb ⟨rfl, hbb⟩; have kB := KS.out wb (hba.trans (hbb.mono hba.size))))
    all_goals
      have hbc : Below w6.heap.size w6 wb := hba.trans (hbb.mono hba.size)
      clear hks kA kB hba hba0 hbb hrowa hga xCX0 xCX1 xCX2 xBX0 xBX1 xBX2 TO2 EX2 KS hlx hlb
      have hS := Sm.of_below hbc
      replace BX := Lib.hid (BX.out.sm hS (by omega))
      replace RS := Lib.hid (RS.out.sm hS (by omega))
      replace CS := Lib.hid (CS.out.sm hS (by omega))
      replace R4 := Lib.hid (R4.out.sm hS (by omega))
      replace CX := Lib.hid (CX.out.sm hS (by omega))
      replace RG := Lib.hid (RG.out.sm hS (by omega))
      replace CG := Lib.hid (CG.out.sm hS (by omega))
      replace FB := Lib.hid (below_step FB.out FN hbc)
      have hzc := hbc.size
      replace FN := Nat.le_trans FN hzc
      clear hS hbc
      obtain ⟨xCX0, xCX1, xCX2⟩ := CX.out
      go_wp2_with fail
      refine (MX.out _ (w3.heap.size + 1) w4.heap.size _ (by omega) (R4.out.mono (by omega) (by omega))).mono ?_
      rintro e w8 ⟨rfl, hmr8, hmb8, hms8⟩
      clear xCX0 xCX1 xCX2
      clear R4 hmr8
      replace BX := Lib.hid (BX.out.sm hms8 (by omega))
      replace RS := Lib.hid (RS.out.sm hms8 (by omega))
      replace CS := Lib.hid (CS.out.sm hms8 (by omega))
      replace CX := Lib.hid (CX.out.sm hms8 (by omega))
      replace RG := Lib.hid (RG.out.sm hms8 (by omega))
      replace CG := Lib.hid (CG.out.sm hms8 (by omega))
      replace FB := Lib.hid (FB.out.trans (hmb8 _ (by omega) FN))
      have hzm := hms8.size
      replace FN := Nat.le_trans FN hzm
      clear hmb8 hms8
      obtain ⟨xCG0, xCG1, xCG2⟩ := CG.out
      obtain ⟨xCS0, xCS1, xCS2⟩ := CS.out
      go_wp2_with fail
      refine (EQ.out _ _ _ _ _ RG.out.sl RS.out.sl).mono ?_
      rintro e w9 ⟨rfl, hb9⟩
      clear xCG0 xCG1 xCG2
      clear xCS0 xCS1 xCS2
      have hS := Sm.of_below hb9
      replace BX := Lib.hid (BX.out.sm hS (by omega))
      replace RS := Lib.hid (RS.out.sm hS (by omega))
      replace CS := Lib.hid (CS.out.sm hS (by omega))
      replace CX := Lib.hid (CX.out.sm hS (by omega))
      replace RG := Lib.hid (RG.out.sm hS (by omega))
      replace CG := Lib.hid (CG.out.sm hS (by omega))
      replace FB := Lib.hid (below_step FB.out FN hb9)
      have hz9 := hb9.size
      replace FN := Nat.le_trans FN hz9
      clear hS
      obtain ⟨xCG0, xCG1, xCG2⟩ := CG.out
      go_wp2_with fail
      refine (MK.out _ _ (w4.heap.size + 1) w5.heap.size _ (by omega) (RG.out.mono (by omega) (by omega))).mono ?_
      rintro e w10 ⟨rfl, hmr10, hmb10, hms10⟩
      clear xCG0 xCG1 xCG2
      clear RG
      replace BX := Lib.hid (BX.out.sm hms10 (by omega))
      replace RS := Lib.hid (RS.out.sm hms10 (by omega))
      replace CS := Lib.hid (CS.out.sm hms10 (by omega))
      replace CX := Lib.hid (CX.out.sm hms10 (by omega))
      replace CG := Lib.hid (CG.out.sm hms10 (by omega))
      have RM := Lib.hid hmr10
      clear hmr10
      replace FB := Lib.hid (FB.out.trans (hmb10 _ (by omega) FN))
      have hzq := hms10.size
      replace FN := Nat.le_trans FN hzq
      clear hmb10 hms10
      obtain ⟨xCG0, xCG1, xCG2⟩ := CG.out
      go_wp2_with fail
      refine (HD.out _ _ _ RM.out.sl).mono ?_
      rintro e w11 ⟨rfl, hb11⟩
      clear xCG0 xCG1 xCG2
      have hS := Sm.of_below hb11
      replace BX := Lib.hid (BX.out.sm hS (by omega))
      replace RS := Lib.hid (RS.out.sm hS (by omega))
      replace CS := Lib.hid (CS.out.sm hS (by omega))
      replace CX := Lib.hid (CX.out.sm hS (by omega))
      replace CG := Lib.hid (CG.out.sm hS (by omega))
      replace RM := Lib.hid (RM.out.sm hS (by omega))
      replace FB := Lib.hid (below_step FB.out FN hb11)
      have hz11 := hb11.size
      replace FN := Nat.le_trans FN hz11
      clear hS
      obtain ⟨xBX0, xBX1, xBX2⟩ := BX.out
      go_wp2_with fail
      refine (TO.out _ FB.out).mono ?_
      rintro e w12 ⟨g12, rfl, hrow12, hg12, hb12⟩
      clear xBX0 xBX1 xBX2
      have hS := Sm.of_below hb12
      replace BX := Lib.hid (BX.out.sm hS (by omega))
      replace RS := Lib.hid (RS.out.sm hS (by omega))
      replace CS := Lib.hid (CS.out.sm hS (by omega))
      replace CX := Lib.hid (CX.out.sm hS (by omega))
      replace CG := Lib.hid (CG.out.sm hS (by omega))
      replace RM := Lib.hid (RM.out.sm hS (by omega))
      replace FB := Lib.hid (below_step FB.out FN hb12)
      have hz12 := hb12.size
      replace FN := Nat.le_trans FN hz12
      clear hS
      have R12 := Lib.hid (hrow12.sli hg12)
      clear hrow12
      go_wp2_with fail
      refine (IM.out _ _ R12.out.sl).mono ?_
      rintro e w13 ⟨s13, d13, rfl, hso13, hb13⟩
      have hS := Sm.of_below hb13
      replace BX := Lib.hid (BX.out.sm hS (by omega))
      replace RS := Lib.hid (RS.out.sm hS (by omega))
      replace CS := Lib.hid (CS.out.sm hS (by omega))
      replace CX := Lib.hid (CX.out.sm hS (by omega))
      replace CG := Lib.hid (CG.out.sm hS (by omega))
      replace RM := Lib.hid (RM.out.sm hS (by omega))
      replace R12 := Lib.hid (R12.out.sm hS (by omega))
      replace FB := Lib.hid (below_step FB.out FN hb13)
      have hz13 := hb13.size
      replace FN := Nat.le_trans FN hz13
      clear hS
      have RH := Lib.hid hso13.within
      clear hso13
      have hS := Sm.alloc w13 (.cells #[.int .i64 rc, .int .i64 rf, .slice s13 rs.length d13] 39)
      replace BX := Lib.hid (BX.out.sm hS (by omega))
      replace RS := Lib.hid (RS.out.sm hS (by omega))
      replace CS := Lib.hid (CS.out.sm hS (by omega))
      replace CX := Lib.hid (CX.out.sm hS (by omega))
      replace CG := Lib.hid (CG.out.sm hS (by omega))
      replace RM := Lib.hid (RM.out.sm hS (by omega))
      replace R12 := Lib.hid (R12.out.sm hS (by omega))
      replace RH := Lib.hid (RH.out.sm hS (by omega))
      have CH := Lib.hid (FluxAt.new w13 rc rf s13 rs.length d13 39 w13.heap.size rfl)
      replace FB := Lib.hid (below_new FB.out FN (.cells #[.int .i64 rc, .int .i64 rf, .slice s13 rs.length d13] 39))
      have hq13 : (w13.alloc (.cells #[.int .i64 rc, .int .i64 rf, .slice s13 rs.length d13] 39)).heap.size = w13.heap.size + 1 := by simp
      replace FN : w.heap.size ≤ (w13.alloc (.cells #[.int .i64 rc, .int .i64 rf, .slice s13 rs.length d13] 39)).heap.size := by omega
      clear hS
      obtain ⟨xCH0, xCH1, xCH2⟩ := CH.out
      obtain ⟨xCS0, xCS1, xCS2⟩ := CS.out
      go_wp2_with fail
      refine (EQ.out _ _ _ _ _ RH.out.sl RS.out.sl).mono ?_
      rintro e w14 ⟨rfl, hb14⟩
      clear xCH0 xCH1 xCH2
      clear xCS0 xCS1 xCS2
      have hS := Sm.of_below hb14
      replace BX := Lib.hid (BX.out.sm hS (by omega))
      replace RS := Lib.hid (RS.out.sm hS (by omega))
      replace CS := Lib.hid (CS.out.sm hS (by omega))
      replace CX := Lib.hid (CX.out.sm hS (by omega))
      replace CG := Lib.hid (CG.out.sm hS (by omega))
      replace RM := Lib.hid (RM.out.sm hS (by omega))
      replace R12 := Lib.hid (R12.out.sm hS (by omega))
      replace RH := Lib.hid (RH.out.sm hS (by omega))
      replace CH := Lib.hid (CH.out.sm hS (by omega))
      replace FB := Lib.hid (below_step FB.out FN hb14)
      have hz14 := hb14.size
      replace FN := Nat.le_trans FN hz14
      clear hS
      obtain ⟨xCG0, xCG1, xCG2⟩ := CG.out
      go_wp2_with fail
      refine (HD.out _ _ _ RM.out.sl).mono ?_
      rintro e w15 ⟨rfl, hb15⟩
      clear xCG0 xCG1 xCG2
      have hS := Sm.of_below hb15
      replace BX := Lib.hid (BX.out.sm hS (by omega))
      replace RS := Lib.hid (RS.out.sm hS (by omega))
      replace CS := Lib.hid (CS.out.sm hS (by omega))
      replace CX := Lib.hid (CX.out.sm hS (by omega))
      replace CG := Lib.hid (CG.out.sm hS (by omega))
      replace RM := Lib.hid (RM.out.sm hS (by omega))
      replace R12 := Lib.hid (R12.out.sm hS (by omega))
      replace RH := Lib.hid (RH.out.sm hS (by omega))
      replace CH := Lib.hid (CH.out.sm hS (by omega))
      replace FB := Lib.hid (below_step FB.out FN hb15)
      have hz15 := hb15.size
      replace FN := Nat.le_trans FN hz15
      clear hS
      go_wp2
      go_ret
      exact ⟨rfl, FB.out⟩
end Go.Proofs.Ytgmnaikgjfbgkaa.fnExactAddDrift
