/- spec.l03Clamp, spec.l03Step -/
import Derived.Test.YtdoledckkbcihaaStepRun
namespace Go.Proofs.Ytdoledckkbcihaa
open Go.RowKit
set_option linter.unusedVariables false
set_option linter.unusedSimpArgs false
set_option maxRecDepth 20000
theorem l00MinS_any (a b : Int) (w : World) : Calls Try.prog 137 #[.int .i64 a, .int .i64 b] w fun e w' => e = .returned (.int .i64 (min a b)) ∧ w = w' := by
  by_cases h : a < b
  all_goals
    go_enter Try.func137, Try.ntmps137
    go_wp2
    go_ret
    exact ⟨ret_int (by omega), rfl⟩
theorem l00MaxS_any (a b : Int) (w : World) : Calls Try.prog 113 #[.int .i64 a, .int .i64 b] w fun e w' => e = .returned (.int .i64 (max a b)) ∧ w = w' := by
  by_cases h : b < a
  all_goals
    go_enter Try.func113, Try.ntmps113
    go_wp2
    go_ret
    exact ⟨ret_int (by omega), rfl⟩
theorem l03Clamp_any (x lo hi : Int) (w : World) : Calls Try.prog 125 #[.int .i64 x, .int .i64 lo, .int .i64 hi] w fun e w' => e = .returned (.int .i64 (clampI x lo hi)) ∧ w = w' := by
  have M1 := Lib.hid (fun w => l00MinS_any x hi w)
  have M2 := Lib.hid (fun w => l00MaxS_any lo (min x hi) w)
  unfold clampI
  generalize min x hi = y at *
  generalize max lo y = z at *
  go_enter Try.func125, Try.ntmps125
  go_wp2_with fail
  refine (M1.out _).mono ?_
  rintro e _ ⟨rfl, rfl⟩
  go_wp2_with fail
  refine (M2.out _).mono ?_
  rintro e _ ⟨rfl, rfl⟩
  go_wp2
  go_ret
  exact ⟨rfl, rfl⟩
set_option maxHeartbeats 8000000 in
theorem l03Step_0 (c l h p s P o gap N E : Int) (w : World) (hp0 : ¬ p = 0) (hs0 : ¬ s = 0) (f1 : 2 ≤ l ∧ l ≤ 400) (f2 : 2 ≤ h ∧ h ≤ 400) (f3 : 0 ≤ p ∧ p ≤ 64) (f4 : 0 ≤ s ∧ s ≤ 64) (p1 : 128 ≤ P) (p2 : P ≤ 25600) (o1 : -25600 ≤ o) (o2 : o ≤ 25600) (g1 : 1 ≤ gap) (g2 : gap ≤ 2000000) (r1 : l * 64 ≤ P) (r2 : P ≤ h * 64)
    (hN : stN P o gap = N) (hE : stE P o gap = E) (hXX : ¬ P ≤ gap * 64 + o + P / 2) :
    Calls Try.prog 108 #[.agg #[.int .i64 c, .int .i64 l, .int .i64 h, .int .i64 p, .int .i64 s], .agg #[.int .i64 P, .int .i64 o], .int .i64 gap] w fun e w' => e = .returned (.tuple #[.int .i64 N, .int .i64 E, .agg #[.int .i64 (stPer l h s P o gap), .int .i64 (stOff l h p s P o gap)]]) ∧ Below w.heap.size w w' := by
  obtain ⟨n1, n2, e1, e2, m1, m2⟩ := st_bd p1 p2 o1 o2 g1 g2
  have hpb := stPer0_bd (sp := s) f4.1 n1 p1 p2 e1 e2
  have hob := stOff0_bd (ph := p) f3.1 e1 e2
  have HV := Lib.hid (show stPer l h s P o gap = clampI (stPer0 s P (stN P o gap) (stE P o gap)) (l * 64) (h * 64) from rfl)
  have HW := Lib.hid (show stOff l h p s P o gap = clampI (stOff0 p (stE P o gap)) (-(stPer l h s P o gap)) (stPer l h s P o gap) from rfl)
  rw [HW.out, HV.out]
  rw [hN, hE] at hpb ⊢
  rw [hE] at hob
  rw [hN] at n1 n2 m1 m2
  rw [hE] at e1 e2
  clear HV HW
  have hp2 : P.tdiv 2 = P / 2 := Int.tdiv_eq_ediv_of_nonneg (by omega)
  have HQB := Lib.hid (stQ_bd p1 p2 o1 o2 g1 g2)
  have hEE := hE
  unfold stE at hEE
  rw [hN] at hEE
  unfold stN at hN
  rw [hp2] at hN HQB
  obtain ⟨X, hX⟩ : ∃ X, gap * 64 + o + P / 2 = X := ⟨_, rfl⟩
  rw [hX] at hN HQB hXX
  have hN1 : N = 1 := by
    rw [← hN]
    have h1 : X.tdiv P < 1 := by
      by_cases h0 : 0 ≤ X
      · rw [Int.tdiv_eq_ediv_of_nonneg h0, Int.ediv_eq_zero_of_lt h0 (by omega)]; omega
      · have h2 := Int.tdiv_nonneg (a := -X) (b := P) (by omega) (by omega)
        rw [Int.neg_tdiv] at h2; omega
    omega
  have hXa : ¬ P ≤ X := hXX
  subst hN1
  have hP0 : ¬ P = 0 := by omega
  rw [Int.one_mul] at hEE m1 m2
  have hwE : wrap64 (gap * 64 + o - P) = E := by unfold wrap64; omega
  have HM := Lib.hid (And.intro rfl (And.intro hX (And.intro hN (And.intro hEE hE))) : (1 : Nat) = 1 ∧ _)
  have HO := Lib.hid (show stOff0 p E = E - E.tdiv p by unfold stOff0; rw [if_neg hp0])
  have hp9 : (0 : Int) < p := by omega
  have hp8 : ¬ p = 0 := hp0
  have hp7 : (p == 0) = false := by simp [hp0]
  obtain ⟨D2, hD2⟩ : ∃ y, E.tdiv p = y := ⟨_, rfl⟩
  have hDb2 := tdiv_bd (d := p) (by omega) (e := E) (by omega) (by omega)
  rw [hD2] at hDb2
  have hwD3 : wrap64 D2 = D2 := by unfold wrap64; omega
  have hwD4 : IntKind.i64.wrap D2 = D2 := IntWalk.i64_in _ (by omega)
  have HPP := Lib.hid (show clampI (stPer0 s P 1 E) (l * 64) (h * 64) = clampI (P + E.tdiv (1 * s)) (l * 64) (h * 64) by unfold stPer0; rw [if_neg hs0])
  have hs1 : (0 : Int) < s := by omega
  have hns : 1 ≤ 1 * s ∧ 1 * s ≤ 200000000 := by
    have h1 := Int.mul_le_mul n1 (show 1 ≤ s by omega) (by omega) (by omega)
    have h2 := Int.mul_le_mul n2 (show s ≤ 64 by omega) (by omega) (by omega)
    omega
  unfold stPer0 at hpb
  rw [if_neg hs0] at hpb
  rw [Int.one_mul] at hns hpb HPP
  obtain ⟨D, hD⟩ : ∃ y, E.tdiv s = y := ⟨_, rfl⟩
  have hDb := tdiv_bd hns.1 (e := E) (by omega) (by omega)
  rw [hD] at hpb hDb HPP
  have hwN : wrap64 s = s := by unfold wrap64; omega
  have hwD : wrap64 D = D := by unfold wrap64; omega
  have hwD2 : IntKind.i64.wrap D = D := IntWalk.i64_in _ (by omega)
  have hNS0 : ¬ s = 0 := by omega
  have hNS1 : (s == 0) = false := by simp [hNS0]
  have hNS2 : IntKind.i64.wrap s = s := IntWalk.i64_in _ (by omega)
  have hPD : wrap64 (P + D) = P + D := by unfold wrap64; omega
  have hPD2 : IntKind.i64.wrap (P + D) = P + D := IntWalk.i64_in _ (by omega)
  have hl65 : IntKind.i64.wrap (l * 64) = l * 64 := IntWalk.i64_in _ (by omega)
  have hh65 : IntKind.i64.wrap (h * 64) = h * 64 := IntWalk.i64_in _ (by omega)
  have hl64 : wrap64 (l * 64) = l * 64 := by unfold wrap64; omega
  have hh64 : wrap64 (h * 64) = h * 64 := by unfold wrap64; omega
  have BD1 := Lib.hid (fun w => l03Clamp_any (P + D) (l * 64) (h * 64) w)
  have hbdQ := clampI_bd (n := P + D) (lo := l * 64) (hi := h * 64) (by omega)
  rw [HPP.out]
  obtain ⟨Q, hQ⟩ : ∃ y, clampI (P + D) (l * 64) (h * 64) = y := ⟨_, rfl⟩
  rw [hQ] at BD1 hbdQ ⊢
  clear hQ
  have BD2 := Lib.hid (fun w => l03Clamp_any (E - D2) (-Q) Q w)
  rw [HO.out]
  rw [hD2]
  obtain ⟨Q2, hQ2⟩ : ∃ y, clampI (E - D2) (-Q) Q = y := ⟨_, rfl⟩
  rw [hQ2] at BD2 ⊢
  clear hp0 hs0 hXX hN hE hEE hQ2 hp2
  go_enter Try.func108, Try.ntmps108
  go_upto_region 7 with (fail)
  try simp only [HM.out.2.2.2.1]
  have bC : BoxF ((((w.alloc (.cells #[.int .i64 c, .int .i64 l, .int .i64 h, .int .i64 p, .int .i64 s] 59)).alloc (.cells #[.int .i64 P, .int .i64 o] 166)).alloc (.cells #[.int .i64 0, .int .i64 0] 166)).alloc (.cells #[.int .i64 P, .int .i64 E] 166)) w.heap.size #[.int .i64 c, .int .i64 l, .int .i64 h, .int .i64 p, .int .i64 s] := boxF5 (by simp [go_sem]) (by simp [go_sem]) (by simp [go_sem]) (by simp [go_sem]) (by simp [go_sem])
  have bL : BoxF ((((w.alloc (.cells #[.int .i64 c, .int .i64 l, .int .i64 h, .int .i64 p, .int .i64 s] 59)).alloc (.cells #[.int .i64 P, .int .i64 o] 166)).alloc (.cells #[.int .i64 0, .int .i64 0] 166)).alloc (.cells #[.int .i64 P, .int .i64 E] 166)) (w.heap.size + 1) #[.int .i64 P, .int .i64 o] := boxF2 (by simp [go_sem]) (by simp [go_sem])
  have bR : BoxF ((((w.alloc (.cells #[.int .i64 c, .int .i64 l, .int .i64 h, .int .i64 p, .int .i64 s] 59)).alloc (.cells #[.int .i64 P, .int .i64 o] 166)).alloc (.cells #[.int .i64 0, .int .i64 0] 166)).alloc (.cells #[.int .i64 P, .int .i64 E] 166)) (w.heap.size + 1 + 1) #[.int .i64 0, .int .i64 0] := boxF2 (by simp [go_sem]) (by simp [go_sem])
  have bS : BoxF ((((w.alloc (.cells #[.int .i64 c, .int .i64 l, .int .i64 h, .int .i64 p, .int .i64 s] 59)).alloc (.cells #[.int .i64 P, .int .i64 o] 166)).alloc (.cells #[.int .i64 0, .int .i64 0] 166)).alloc (.cells #[.int .i64 P, .int .i64 E] 166)) (w.heap.size + 1 + 1 + 1) #[.int .i64 P, .int .i64 E] := boxF2 (by simp [go_sem]) (by simp [go_sem])
  have FB := Lib.hid (show Below w.heap.size w ((((w.alloc (.cells #[.int .i64 c, .int .i64 l, .int .i64 h, .int .i64 p, .int .i64 s] 59)).alloc (.cells #[.int .i64 P, .int .i64 o] 166)).alloc (.cells #[.int .i64 0, .int .i64 0] 166)).alloc (.cells #[.int .i64 P, .int .i64 E] 166)) by go_grown)
  have hlt3 : w.heap.size + 1 + 1 + 1 < ((((w.alloc (.cells #[.int .i64 c, .int .i64 l, .int .i64 h, .int .i64 p, .int .i64 s] 59)).alloc (.cells #[.int .i64 P, .int .i64 o] 166)).alloc (.cells #[.int .i64 0, .int .i64 0] 166)).alloc (.cells #[.int .i64 P, .int .i64 E] 166)).heap.size := by simp
  generalize ((((w.alloc (.cells #[.int .i64 c, .int .i64 l, .int .i64 h, .int .i64 p, .int .i64 s] 59)).alloc (.cells #[.int .i64 P, .int .i64 o] 166)).alloc (.cells #[.int .i64 0, .int .i64 0] 166)).alloc (.cells #[.int .i64 P, .int .i64 E] 166)) = W at *
  have hlt2 : w.heap.size + 1 + 1 < W.heap.size := by omega
  obtain ⟨xC0, yC0⟩ := bC 0 _ rfl
  obtain ⟨xC1, yC1⟩ := bC 1 _ rfl
  obtain ⟨xC2, yC2⟩ := bC 2 _ rfl
  obtain ⟨xC3, yC3⟩ := bC 3 _ rfl
  obtain ⟨xC4, yC4⟩ := bC 4 _ rfl
  obtain ⟨xL0, yL0⟩ := bL 0 _ rfl
  obtain ⟨xL1, yL1⟩ := bL 1 _ rfl
  obtain ⟨xR0, yR0⟩ := bR 0 _ rfl
  obtain ⟨xR1, yR1⟩ := bR 1 _ rfl
  obtain ⟨xS0, yS0⟩ := bS 0 _ rfl
  obtain ⟨xS1, yS1⟩ := bS 1 _ rfl
  clear bC bL bR bS
  go_upto_region 9 with (fail)
  have b8C : BoxF (W.setCell ⟨w.heap.size + 1 + 1 + 1, 1, none⟩ (.int .i64 (E - D2))) w.heap.size #[.int .i64 c, .int .i64 l, .int .i64 h, .int .i64 p, .int .i64 s] := boxF5 (by simp [go_sem, xC0, yC0]) (by simp [go_sem, xC1, yC1]) (by simp [go_sem, xC2, yC2]) (by simp [go_sem, xC3, yC3]) (by simp [go_sem, xC4, yC4])
  have b8L : BoxF (W.setCell ⟨w.heap.size + 1 + 1 + 1, 1, none⟩ (.int .i64 (E - D2))) (w.heap.size + 1) #[.int .i64 P, .int .i64 o] := boxF2 (by simp [go_sem, xL0, yL0]) (by simp [go_sem, xL1, yL1])
  have b8R : BoxF (W.setCell ⟨w.heap.size + 1 + 1 + 1, 1, none⟩ (.int .i64 (E - D2))) (w.heap.size + 1 + 1) #[.int .i64 0, .int .i64 0] := boxF2 (by simp [go_sem, xR0, yR0]) (by simp [go_sem, xR1, yR1])
  have b8S : BoxF (W.setCell ⟨w.heap.size + 1 + 1 + 1, 1, none⟩ (.int .i64 (E - D2))) (w.heap.size + 1 + 1 + 1) #[.int .i64 P, .int .i64 (E - D2)] := boxF2 (by simp [go_sem, xS0, yS0]) (by simp [go_sem, xS1, yS1])
  have FB8 := Lib.hid (show Below w.heap.size w (W.setCell ⟨w.heap.size + 1 + 1 + 1, 1, none⟩ (.int .i64 (E - D2))) from FB.out.setCell (by simp <;> omega) _)
  have hlt8 : w.heap.size + 1 + 1 + 1 < (W.setCell ⟨w.heap.size + 1 + 1 + 1, 1, none⟩ (.int .i64 (E - D2))).heap.size := by simpa [World.setCell] using hlt3
  generalize (W.setCell ⟨w.heap.size + 1 + 1 + 1, 1, none⟩ (.int .i64 (E - D2))) = W8 at *
  clear FB hlt3 hlt2
  clear xC0 yC0 xC1 yC1 xC2 yC2 xC3 yC3 xC4 yC4
  clear xL0 yL0 xL1 yL1
  clear xR0 yR0 xR1 yR1
  clear xS0 yS0 xS1 yS1
  obtain ⟨xC0, yC0⟩ := b8C 0 _ rfl
  obtain ⟨xC1, yC1⟩ := b8C 1 _ rfl
  obtain ⟨xC2, yC2⟩ := b8C 2 _ rfl
  obtain ⟨xC3, yC3⟩ := b8C 3 _ rfl
  obtain ⟨xC4, yC4⟩ := b8C 4 _ rfl
  obtain ⟨xL0, yL0⟩ := b8L 0 _ rfl
  obtain ⟨xL1, yL1⟩ := b8L 1 _ rfl
  obtain ⟨xR0, yR0⟩ := b8R 0 _ rfl
  obtain ⟨xR1, yR1⟩ := b8R 1 _ rfl
  obtain ⟨xS0, yS0⟩ := b8S 0 _ rfl
  obtain ⟨xS1, yS1⟩ := b8S 1 _ rfl
  clear b8C b8L b8R b8S
  have FB := FB8
  have hlt3 := hlt8
  clear FB8 hlt8
  have hks : W8.cell? ⟨w.heap.size, 1, none⟩ = some (.int .i64 l) ∧ W8.cell? ⟨w.heap.size, 2, none⟩ = some (.int .i64 h) ∧ W8.cell? ⟨w.heap.size, 4, none⟩ = some (.int .i64 s) ∧ W8.cell? ⟨w.heap.size + 1, 0, none⟩ = some (.int .i64 P) := ⟨xC1, xC2, xC4, xL0⟩
  go_wp2
  go_region_held3 (fun w' => w'.cell? ⟨w.heap.size, 1, none⟩ = some (.int .i64 l) ∧ w'.cell? ⟨w.heap.size, 2, none⟩ = some (.int .i64 h) ∧ w'.cell? ⟨w.heap.size, 4, none⟩ = some (.int .i64 s) ∧ w'.cell? ⟨w.heap.size + 1, 0, none⟩ = some (.int .i64 P))
    (first | (with_reducible exact hks) | (simp [go_sem, xC1, xC2, xC4, xL0]) | go_keep)
    (first | (go_at_call 125; ((with_reducible refine (BD1.out _).mono ?_); rintro e _ ⟨rfl, rfl⟩)) | fail)
  all_goals
    have b6S : BoxF (W8.setCell ⟨w.heap.size + 1 + 1 + 1, 0, none⟩ (.int .i64 Q)).drew (w.heap.size + 1 + 1 + 1) #[.int .i64 Q, .int .i64 (E - D2)] := boxF2 (by simp [go_sem, xS0, yS0]) (by simp [go_sem, xS1, yS1])
    have b6R : BoxF (W8.setCell ⟨w.heap.size + 1 + 1 + 1, 0, none⟩ (.int .i64 Q)).drew (w.heap.size + 1 + 1) #[.int .i64 0, .int .i64 0] := boxF2 (by simp [go_sem, xR0, yR0]) (by simp [go_sem, xR1, yR1])
    have FB6 := Lib.hid (show Below w.heap.size w (W8.setCell ⟨w.heap.size + 1 + 1 + 1, 0, none⟩ (.int .i64 Q)).drew from (FB.out.setCell (by simp <;> omega) _).drew)
    have hl6 : w.heap.size + 1 + 1 + 1 < (W8.setCell ⟨w.heap.size + 1 + 1 + 1, 0, none⟩ (.int .i64 Q)).drew.heap.size := by simpa [World.setCell] using hlt3
    generalize (W8.setCell ⟨w.heap.size + 1 + 1 + 1, 0, none⟩ (.int .i64 Q)).drew = w6 at *
    clear xC0 yC0 xC1 yC1 xC2 yC2 xC3 yC3 xC4 yC4 xL0 yL0 xL1 yL1 xR0 yR0 xR1 yR1 xS0 yS0 xS1 yS1 hks
    obtain ⟨xS0, yS0⟩ := b6S 0 _ rfl
    obtain ⟨xS1, yS1⟩ := b6S 1 _ rfl
    obtain ⟨xR0, yR0⟩ := b6R 0 _ rfl
    obtain ⟨xR1, yR1⟩ := b6R 1 _ rfl
    go_wp2_with fail
    refine (BD2.out _).mono ?_
    rintro e _ ⟨rfl, rfl⟩
    go_wp2
    go_region
    go_wp2
    refine bodyPost_ret (v := .tuple #[.int .i64 1, .int .i64 E, .agg #[.int .i64 Q, .int .i64 Q2]]) (by simp [results, Try.results108, go_sem, xR0, yR0, xR1, yR1]) rfl ⟨rfl, ?_⟩
    exact ((((FB6.out.setCell (by simp <;> omega) _).setCell (by simp <;> omega) _).setCell (by simp <;> omega) _).drew)
set_option maxHeartbeats 8000000 in
theorem l03Step_1 (c l h p s P o gap N E : Int) (w : World) (hp0 : ¬ p = 0) (hs0 : ¬ s = 0) (f1 : 2 ≤ l ∧ l ≤ 400) (f2 : 2 ≤ h ∧ h ≤ 400) (f3 : 0 ≤ p ∧ p ≤ 64) (f4 : 0 ≤ s ∧ s ≤ 64) (p1 : 128 ≤ P) (p2 : P ≤ 25600) (o1 : -25600 ≤ o) (o2 : o ≤ 25600) (g1 : 1 ≤ gap) (g2 : gap ≤ 2000000) (r1 : l * 64 ≤ P) (r2 : P ≤ h * 64)
    (hN : stN P o gap = N) (hE : stE P o gap = E) (hXX : P ≤ gap * 64 + o + P / 2) :
    Calls Try.prog 108 #[.agg #[.int .i64 c, .int .i64 l, .int .i64 h, .int .i64 p, .int .i64 s], .agg #[.int .i64 P, .int .i64 o], .int .i64 gap] w fun e w' => e = .returned (.tuple #[.int .i64 N, .int .i64 E, .agg #[.int .i64 (stPer l h s P o gap), .int .i64 (stOff l h p s P o gap)]]) ∧ Below w.heap.size w w' := by
  obtain ⟨n1, n2, e1, e2, m1, m2⟩ := st_bd p1 p2 o1 o2 g1 g2
  have hpb := stPer0_bd (sp := s) f4.1 n1 p1 p2 e1 e2
  have hob := stOff0_bd (ph := p) f3.1 e1 e2
  have HV := Lib.hid (show stPer l h s P o gap = clampI (stPer0 s P (stN P o gap) (stE P o gap)) (l * 64) (h * 64) from rfl)
  have HW := Lib.hid (show stOff l h p s P o gap = clampI (stOff0 p (stE P o gap)) (-(stPer l h s P o gap)) (stPer l h s P o gap) from rfl)
  rw [HW.out, HV.out]
  rw [hN, hE] at hpb ⊢
  rw [hE] at hob
  rw [hN] at n1 n2 m1 m2
  rw [hE] at e1 e2
  clear HV HW
  have hp2 : P.tdiv 2 = P / 2 := Int.tdiv_eq_ediv_of_nonneg (by omega)
  have HQB := Lib.hid (stQ_bd p1 p2 o1 o2 g1 g2)
  have hEE := hE
  unfold stE at hEE
  rw [hN] at hEE
  unfold stN at hN
  rw [hp2] at hN HQB
  obtain ⟨X, hX⟩ : ∃ X, gap * 64 + o + P / 2 = X := ⟨_, rfl⟩
  rw [hX] at hN HQB hXX
  have hq : X.tdiv P = N := by
    rw [← hN]
    have h1 : 1 ≤ X.tdiv P := by
      rw [Int.tdiv_eq_ediv_of_nonneg (by omega)]
      exact (Int.le_ediv_iff_mul_le (by omega)).2 (by omega)
    omega
  have hwq : wrap64 N = N := by unfold wrap64; omega
  have hwq2 : IntKind.i64.wrap N = N := IntWalk.i64_in _ (by omega)
  have hXa : P ≤ X := hXX
  have hP0 : ¬ P = 0 := by omega
  obtain ⟨M, hM⟩ : ∃ M, N * P = M := ⟨_, rfl⟩
  rw [hM] at hEE m1 m2
  have hwM : wrap64 M = M := by unfold wrap64; omega
  have hwE : wrap64 (gap * 64 + o - M) = E := by unfold wrap64; omega
  have HM := Lib.hid (And.intro hM (And.intro hX (And.intro hN (And.intro hEE hE))))
  have HO := Lib.hid (show stOff0 p E = E - E.tdiv p by unfold stOff0; rw [if_neg hp0])
  have hp9 : (0 : Int) < p := by omega
  have hp8 : ¬ p = 0 := hp0
  have hp7 : (p == 0) = false := by simp [hp0]
  obtain ⟨D2, hD2⟩ : ∃ y, E.tdiv p = y := ⟨_, rfl⟩
  have hDb2 := tdiv_bd (d := p) (by omega) (e := E) (by omega) (by omega)
  rw [hD2] at hDb2
  have hwD3 : wrap64 D2 = D2 := by unfold wrap64; omega
  have hwD4 : IntKind.i64.wrap D2 = D2 := IntWalk.i64_in _ (by omega)
  have HPP := Lib.hid (show clampI (stPer0 s P N E) (l * 64) (h * 64) = clampI (P + E.tdiv (N * s)) (l * 64) (h * 64) by unfold stPer0; rw [if_neg hs0])
  have hs1 : (0 : Int) < s := by omega
  have hns : 1 ≤ N * s ∧ N * s ≤ 200000000 := by
    have h1 := Int.mul_le_mul n1 (show 1 ≤ s by omega) (by omega) (by omega)
    have h2 := Int.mul_le_mul n2 (show s ≤ 64 by omega) (by omega) (by omega)
    omega
  unfold stPer0 at hpb
  rw [if_neg hs0] at hpb
  obtain ⟨NS, hNS⟩ : ∃ y, N * s = y := ⟨_, rfl⟩
  rw [hNS] at hns hpb HPP
  obtain ⟨D, hD⟩ : ∃ y, E.tdiv NS = y := ⟨_, rfl⟩
  have hDb := tdiv_bd hns.1 (e := E) (by omega) (by omega)
  rw [hD] at hpb hDb HPP
  have hwN : wrap64 NS = NS := by unfold wrap64; omega
  have hwD : wrap64 D = D := by unfold wrap64; omega
  have hwD2 : IntKind.i64.wrap D = D := IntWalk.i64_in _ (by omega)
  have hNS0 : ¬ NS = 0 := by omega
  have hNS1 : (NS == 0) = false := by simp [hNS0]
  have hNS2 : IntKind.i64.wrap NS = NS := IntWalk.i64_in _ (by omega)
  have hPD : wrap64 (P + D) = P + D := by unfold wrap64; omega
  have hPD2 : IntKind.i64.wrap (P + D) = P + D := IntWalk.i64_in _ (by omega)
  have hl65 : IntKind.i64.wrap (l * 64) = l * 64 := IntWalk.i64_in _ (by omega)
  have hh65 : IntKind.i64.wrap (h * 64) = h * 64 := IntWalk.i64_in _ (by omega)
  have hl64 : wrap64 (l * 64) = l * 64 := by unfold wrap64; omega
  have hh64 : wrap64 (h * 64) = h * 64 := by unfold wrap64; omega
  have BD1 := Lib.hid (fun w => l03Clamp_any (P + D) (l * 64) (h * 64) w)
  have hbdQ := clampI_bd (n := P + D) (lo := l * 64) (hi := h * 64) (by omega)
  rw [HPP.out]
  obtain ⟨Q, hQ⟩ : ∃ y, clampI (P + D) (l * 64) (h * 64) = y := ⟨_, rfl⟩
  rw [hQ] at BD1 hbdQ ⊢
  clear hQ
  have BD2 := Lib.hid (fun w => l03Clamp_any (E - D2) (-Q) Q w)
  rw [HO.out]
  rw [hD2]
  obtain ⟨Q2, hQ2⟩ : ∃ y, clampI (E - D2) (-Q) Q = y := ⟨_, rfl⟩
  rw [hQ2] at BD2 ⊢
  clear hp0 hs0 hXX hN hE hEE hQ2 hp2
  go_enter Try.func108, Try.ntmps108
  go_upto_region 7 with (fail)
  try simp only [HM.out.2.2.2.1]
  have bC : BoxF ((((w.alloc (.cells #[.int .i64 c, .int .i64 l, .int .i64 h, .int .i64 p, .int .i64 s] 59)).alloc (.cells #[.int .i64 P, .int .i64 o] 166)).alloc (.cells #[.int .i64 0, .int .i64 0] 166)).alloc (.cells #[.int .i64 P, .int .i64 E] 166)) w.heap.size #[.int .i64 c, .int .i64 l, .int .i64 h, .int .i64 p, .int .i64 s] := boxF5 (by simp [go_sem]) (by simp [go_sem]) (by simp [go_sem]) (by simp [go_sem]) (by simp [go_sem])
  have bL : BoxF ((((w.alloc (.cells #[.int .i64 c, .int .i64 l, .int .i64 h, .int .i64 p, .int .i64 s] 59)).alloc (.cells #[.int .i64 P, .int .i64 o] 166)).alloc (.cells #[.int .i64 0, .int .i64 0] 166)).alloc (.cells #[.int .i64 P, .int .i64 E] 166)) (w.heap.size + 1) #[.int .i64 P, .int .i64 o] := boxF2 (by simp [go_sem]) (by simp [go_sem])
  have bR : BoxF ((((w.alloc (.cells #[.int .i64 c, .int .i64 l, .int .i64 h, .int .i64 p, .int .i64 s] 59)).alloc (.cells #[.int .i64 P, .int .i64 o] 166)).alloc (.cells #[.int .i64 0, .int .i64 0] 166)).alloc (.cells #[.int .i64 P, .int .i64 E] 166)) (w.heap.size + 1 + 1) #[.int .i64 0, .int .i64 0] := boxF2 (by simp [go_sem]) (by simp [go_sem])
  have bS : BoxF ((((w.alloc (.cells #[.int .i64 c, .int .i64 l, .int .i64 h, .int .i64 p, .int .i64 s] 59)).alloc (.cells #[.int .i64 P, .int .i64 o] 166)).alloc (.cells #[.int .i64 0, .int .i64 0] 166)).alloc (.cells #[.int .i64 P, .int .i64 E] 166)) (w.heap.size + 1 + 1 + 1) #[.int .i64 P, .int .i64 E] := boxF2 (by simp [go_sem]) (by simp [go_sem])
  have FB := Lib.hid (show Below w.heap.size w ((((w.alloc (.cells #[.int .i64 c, .int .i64 l, .int .i64 h, .int .i64 p, .int .i64 s] 59)).alloc (.cells #[.int .i64 P, .int .i64 o] 166)).alloc (.cells #[.int .i64 0, .int .i64 0] 166)).alloc (.cells #[.int .i64 P, .int .i64 E] 166)) by go_grown)
  have hlt3 : w.heap.size + 1 + 1 + 1 < ((((w.alloc (.cells #[.int .i64 c, .int .i64 l, .int .i64 h, .int .i64 p, .int .i64 s] 59)).alloc (.cells #[.int .i64 P, .int .i64 o] 166)).alloc (.cells #[.int .i64 0, .int .i64 0] 166)).alloc (.cells #[.int .i64 P, .int .i64 E] 166)).heap.size := by simp
  generalize ((((w.alloc (.cells #[.int .i64 c, .int .i64 l, .int .i64 h, .int .i64 p, .int .i64 s] 59)).alloc (.cells #[.int .i64 P, .int .i64 o] 166)).alloc (.cells #[.int .i64 0, .int .i64 0] 166)).alloc (.cells #[.int .i64 P, .int .i64 E] 166)) = W at *
  have hlt2 : w.heap.size + 1 + 1 < W.heap.size := by omega
  obtain ⟨xC0, yC0⟩ := bC 0 _ rfl
  obtain ⟨xC1, yC1⟩ := bC 1 _ rfl
  obtain ⟨xC2, yC2⟩ := bC 2 _ rfl
  obtain ⟨xC3, yC3⟩ := bC 3 _ rfl
  obtain ⟨xC4, yC4⟩ := bC 4 _ rfl
  obtain ⟨xL0, yL0⟩ := bL 0 _ rfl
  obtain ⟨xL1, yL1⟩ := bL 1 _ rfl
  obtain ⟨xR0, yR0⟩ := bR 0 _ rfl
  obtain ⟨xR1, yR1⟩ := bR 1 _ rfl
  obtain ⟨xS0, yS0⟩ := bS 0 _ rfl
  obtain ⟨xS1, yS1⟩ := bS 1 _ rfl
  clear bC bL bR bS
  go_upto_region 9 with (fail)
  have b8C : BoxF (W.setCell ⟨w.heap.size + 1 + 1 + 1, 1, none⟩ (.int .i64 (E - D2))) w.heap.size #[.int .i64 c, .int .i64 l, .int .i64 h, .int .i64 p, .int .i64 s] := boxF5 (by simp [go_sem, xC0, yC0]) (by simp [go_sem, xC1, yC1]) (by simp [go_sem, xC2, yC2]) (by simp [go_sem, xC3, yC3]) (by simp [go_sem, xC4, yC4])
  have b8L : BoxF (W.setCell ⟨w.heap.size + 1 + 1 + 1, 1, none⟩ (.int .i64 (E - D2))) (w.heap.size + 1) #[.int .i64 P, .int .i64 o] := boxF2 (by simp [go_sem, xL0, yL0]) (by simp [go_sem, xL1, yL1])
  have b8R : BoxF (W.setCell ⟨w.heap.size + 1 + 1 + 1, 1, none⟩ (.int .i64 (E - D2))) (w.heap.size + 1 + 1) #[.int .i64 0, .int .i64 0] := boxF2 (by simp [go_sem, xR0, yR0]) (by simp [go_sem, xR1, yR1])
  have b8S : BoxF (W.setCell ⟨w.heap.size + 1 + 1 + 1, 1, none⟩ (.int .i64 (E - D2))) (w.heap.size + 1 + 1 + 1) #[.int .i64 P, .int .i64 (E - D2)] := boxF2 (by simp [go_sem, xS0, yS0]) (by simp [go_sem, xS1, yS1])
  have FB8 := Lib.hid (show Below w.heap.size w (W.setCell ⟨w.heap.size + 1 + 1 + 1, 1, none⟩ (.int .i64 (E - D2))) from FB.out.setCell (by simp <;> omega) _)
  have hlt8 : w.heap.size + 1 + 1 + 1 < (W.setCell ⟨w.heap.size + 1 + 1 + 1, 1, none⟩ (.int .i64 (E - D2))).heap.size := by simpa [World.setCell] using hlt3
  generalize (W.setCell ⟨w.heap.size + 1 + 1 + 1, 1, none⟩ (.int .i64 (E - D2))) = W8 at *
  clear FB hlt3 hlt2
  clear xC0 yC0 xC1 yC1 xC2 yC2 xC3 yC3 xC4 yC4
  clear xL0 yL0 xL1 yL1
  clear xR0 yR0 xR1 yR1
  clear xS0 yS0 xS1 yS1
  obtain ⟨xC0, yC0⟩ := b8C 0 _ rfl
  obtain ⟨xC1, yC1⟩ := b8C 1 _ rfl
  obtain ⟨xC2, yC2⟩ := b8C 2 _ rfl
  obtain ⟨xC3, yC3⟩ := b8C 3 _ rfl
  obtain ⟨xC4, yC4⟩ := b8C 4 _ rfl
  obtain ⟨xL0, yL0⟩ := b8L 0 _ rfl
  obtain ⟨xL1, yL1⟩ := b8L 1 _ rfl
  obtain ⟨xR0, yR0⟩ := b8R 0 _ rfl
  obtain ⟨xR1, yR1⟩ := b8R 1 _ rfl
  obtain ⟨xS0, yS0⟩ := b8S 0 _ rfl
  obtain ⟨xS1, yS1⟩ := b8S 1 _ rfl
  clear b8C b8L b8R b8S
  have FB := FB8
  have hlt3 := hlt8
  clear FB8 hlt8
  have hks : W8.cell? ⟨w.heap.size, 1, none⟩ = some (.int .i64 l) ∧ W8.cell? ⟨w.heap.size, 2, none⟩ = some (.int .i64 h) ∧ W8.cell? ⟨w.heap.size, 4, none⟩ = some (.int .i64 s) ∧ W8.cell? ⟨w.heap.size + 1, 0, none⟩ = some (.int .i64 P) := ⟨xC1, xC2, xC4, xL0⟩
  go_wp2
  go_region_held3 (fun w' => w'.cell? ⟨w.heap.size, 1, none⟩ = some (.int .i64 l) ∧ w'.cell? ⟨w.heap.size, 2, none⟩ = some (.int .i64 h) ∧ w'.cell? ⟨w.heap.size, 4, none⟩ = some (.int .i64 s) ∧ w'.cell? ⟨w.heap.size + 1, 0, none⟩ = some (.int .i64 P))
    (first | (with_reducible exact hks) | (simp [go_sem, xC1, xC2, xC4, xL0]) | go_keep)
    (first | (go_at_call 125; ((with_reducible refine (BD1.out _).mono ?_); rintro e _ ⟨rfl, rfl⟩)) | fail)
  all_goals
    have b6S : BoxF (W8.setCell ⟨w.heap.size + 1 + 1 + 1, 0, none⟩ (.int .i64 Q)).drew (w.heap.size + 1 + 1 + 1) #[.int .i64 Q, .int .i64 (E - D2)] := boxF2 (by simp [go_sem, xS0, yS0]) (by simp [go_sem, xS1, yS1])
    have b6R : BoxF (W8.setCell ⟨w.heap.size + 1 + 1 + 1, 0, none⟩ (.int .i64 Q)).drew (w.heap.size + 1 + 1) #[.int .i64 0, .int .i64 0] := boxF2 (by simp [go_sem, xR0, yR0]) (by simp [go_sem, xR1, yR1])
    have FB6 := Lib.hid (show Below w.heap.size w (W8.setCell ⟨w.heap.size + 1 + 1 + 1, 0, none⟩ (.int .i64 Q)).drew from (FB.out.setCell (by simp <;> omega) _).drew)
    have hl6 : w.heap.size + 1 + 1 + 1 < (W8.setCell ⟨w.heap.size + 1 + 1 + 1, 0, none⟩ (.int .i64 Q)).drew.heap.size := by simpa [World.setCell] using hlt3
    generalize (W8.setCell ⟨w.heap.size + 1 + 1 + 1, 0, none⟩ (.int .i64 Q)).drew = w6 at *
    clear xC0 yC0 xC1 yC1 xC2 yC2 xC3 yC3 xC4 yC4 xL0 yL0 xL1 yL1 xR0 yR0 xR1 yR1 xS0 yS0 xS1 yS1 hks
    obtain ⟨xS0, yS0⟩ := b6S 0 _ rfl
    obtain ⟨xS1, yS1⟩ := b6S 1 _ rfl
    obtain ⟨xR0, yR0⟩ := b6R 0 _ rfl
    obtain ⟨xR1, yR1⟩ := b6R 1 _ rfl
    go_wp2_with fail
    refine (BD2.out _).mono ?_
    rintro e _ ⟨rfl, rfl⟩
    go_wp2
    go_region
    go_wp2
    refine bodyPost_ret (v := .tuple #[.int .i64 N, .int .i64 E, .agg #[.int .i64 Q, .int .i64 Q2]]) (by simp [results, Try.results108, go_sem, xR0, yR0, xR1, yR1]) rfl ⟨rfl, ?_⟩
    exact ((((FB6.out.setCell (by simp <;> omega) _).setCell (by simp <;> omega) _).setCell (by simp <;> omega) _).drew)
set_option maxHeartbeats 8000000 in
theorem l03Step_2 (c l h p s P o gap N E : Int) (w : World) (hp0 : ¬ p = 0) (hs0 : s = 0) (f1 : 2 ≤ l ∧ l ≤ 400) (f2 : 2 ≤ h ∧ h ≤ 400) (f3 : 0 ≤ p ∧ p ≤ 64) (f4 : 0 ≤ s ∧ s ≤ 64) (p1 : 128 ≤ P) (p2 : P ≤ 25600) (o1 : -25600 ≤ o) (o2 : o ≤ 25600) (g1 : 1 ≤ gap) (g2 : gap ≤ 2000000) (r1 : l * 64 ≤ P) (r2 : P ≤ h * 64)
    (hN : stN P o gap = N) (hE : stE P o gap = E) (hXX : ¬ P ≤ gap * 64 + o + P / 2) :
    Calls Try.prog 108 #[.agg #[.int .i64 c, .int .i64 l, .int .i64 h, .int .i64 p, .int .i64 s], .agg #[.int .i64 P, .int .i64 o], .int .i64 gap] w fun e w' => e = .returned (.tuple #[.int .i64 N, .int .i64 E, .agg #[.int .i64 (stPer l h s P o gap), .int .i64 (stOff l h p s P o gap)]]) ∧ Below w.heap.size w w' := by
  obtain ⟨n1, n2, e1, e2, m1, m2⟩ := st_bd p1 p2 o1 o2 g1 g2
  have hpb := stPer0_bd (sp := s) f4.1 n1 p1 p2 e1 e2
  have hob := stOff0_bd (ph := p) f3.1 e1 e2
  have HV := Lib.hid (show stPer l h s P o gap = clampI (stPer0 s P (stN P o gap) (stE P o gap)) (l * 64) (h * 64) from rfl)
  have HW := Lib.hid (show stOff l h p s P o gap = clampI (stOff0 p (stE P o gap)) (-(stPer l h s P o gap)) (stPer l h s P o gap) from rfl)
  rw [HW.out, HV.out]
  rw [hN, hE] at hpb ⊢
  rw [hE] at hob
  rw [hN] at n1 n2 m1 m2
  rw [hE] at e1 e2
  clear HV HW
  have hp2 : P.tdiv 2 = P / 2 := Int.tdiv_eq_ediv_of_nonneg (by omega)
  have HQB := Lib.hid (stQ_bd p1 p2 o1 o2 g1 g2)
  have hEE := hE
  unfold stE at hEE
  rw [hN] at hEE
  unfold stN at hN
  rw [hp2] at hN HQB
  obtain ⟨X, hX⟩ : ∃ X, gap * 64 + o + P / 2 = X := ⟨_, rfl⟩
  rw [hX] at hN HQB hXX
  have hN1 : N = 1 := by
    rw [← hN]
    have h1 : X.tdiv P < 1 := by
      by_cases h0 : 0 ≤ X
      · rw [Int.tdiv_eq_ediv_of_nonneg h0, Int.ediv_eq_zero_of_lt h0 (by omega)]; omega
      · have h2 := Int.tdiv_nonneg (a := -X) (b := P) (by omega) (by omega)
        rw [Int.neg_tdiv] at h2; omega
    omega
  have hXa : ¬ P ≤ X := hXX
  subst hN1
  have hP0 : ¬ P = 0 := by omega
  rw [Int.one_mul] at hEE m1 m2
  have hwE : wrap64 (gap * 64 + o - P) = E := by unfold wrap64; omega
  have HM := Lib.hid (And.intro rfl (And.intro hX (And.intro hN (And.intro hEE hE))) : (1 : Nat) = 1 ∧ _)
  have HO := Lib.hid (show stOff0 p E = E - E.tdiv p by unfold stOff0; rw [if_neg hp0])
  have hp9 : (0 : Int) < p := by omega
  have hp8 : ¬ p = 0 := hp0
  have hp7 : (p == 0) = false := by simp [hp0]
  obtain ⟨D2, hD2⟩ : ∃ y, E.tdiv p = y := ⟨_, rfl⟩
  have hDb2 := tdiv_bd (d := p) (by omega) (e := E) (by omega) (by omega)
  rw [hD2] at hDb2
  have hwD3 : wrap64 D2 = D2 := by unfold wrap64; omega
  have hwD4 : IntKind.i64.wrap D2 = D2 := IntWalk.i64_in _ (by omega)
  have HPP := Lib.hid (show clampI (stPer0 s P 1 E) (l * 64) (h * 64) = P by unfold stPer0; rw [if_pos hs0]; exact clampI_in r1 r2)
  have hs1 : ¬ (0 : Int) < s := by omega
  have BD2 := Lib.hid (fun w => l03Clamp_any (E - D2) (-P) P w)
  rw [HO.out, HPP.out]
  rw [hD2]
  obtain ⟨Q2, hQ2⟩ : ∃ y, clampI (E - D2) (-P) P = y := ⟨_, rfl⟩
  rw [hQ2] at BD2 ⊢
  clear hp0 hs0 hXX hN hE hEE hQ2 hp2
  go_enter Try.func108, Try.ntmps108
  go_upto_region 7 with (fail)
  try simp only [HM.out.2.2.2.1]
  have bC : BoxF ((((w.alloc (.cells #[.int .i64 c, .int .i64 l, .int .i64 h, .int .i64 p, .int .i64 s] 59)).alloc (.cells #[.int .i64 P, .int .i64 o] 166)).alloc (.cells #[.int .i64 0, .int .i64 0] 166)).alloc (.cells #[.int .i64 P, .int .i64 E] 166)) w.heap.size #[.int .i64 c, .int .i64 l, .int .i64 h, .int .i64 p, .int .i64 s] := boxF5 (by simp [go_sem]) (by simp [go_sem]) (by simp [go_sem]) (by simp [go_sem]) (by simp [go_sem])
  have bL : BoxF ((((w.alloc (.cells #[.int .i64 c, .int .i64 l, .int .i64 h, .int .i64 p, .int .i64 s] 59)).alloc (.cells #[.int .i64 P, .int .i64 o] 166)).alloc (.cells #[.int .i64 0, .int .i64 0] 166)).alloc (.cells #[.int .i64 P, .int .i64 E] 166)) (w.heap.size + 1) #[.int .i64 P, .int .i64 o] := boxF2 (by simp [go_sem]) (by simp [go_sem])
  have bR : BoxF ((((w.alloc (.cells #[.int .i64 c, .int .i64 l, .int .i64 h, .int .i64 p, .int .i64 s] 59)).alloc (.cells #[.int .i64 P, .int .i64 o] 166)).alloc (.cells #[.int .i64 0, .int .i64 0] 166)).alloc (.cells #[.int .i64 P, .int .i64 E] 166)) (w.heap.size + 1 + 1) #[.int .i64 0, .int .i64 0] := boxF2 (by simp [go_sem]) (by simp [go_sem])
  have bS : BoxF ((((w.alloc (.cells #[.int .i64 c, .int .i64 l, .int .i64 h, .int .i64 p, .int .i64 s] 59)).alloc (.cells #[.int .i64 P, .int .i64 o] 166)).alloc (.cells #[.int .i64 0, .int .i64 0] 166)).alloc (.cells #[.int .i64 P, .int .i64 E] 166)) (w.heap.size + 1 + 1 + 1) #[.int .i64 P, .int .i64 E] := boxF2 (by simp [go_sem]) (by simp [go_sem])
  have FB := Lib.hid (show Below w.heap.size w ((((w.alloc (.cells #[.int .i64 c, .int .i64 l, .int .i64 h, .int .i64 p, .int .i64 s] 59)).alloc (.cells #[.int .i64 P, .int .i64 o] 166)).alloc (.cells #[.int .i64 0, .int .i64 0] 166)).alloc (.cells #[.int .i64 P, .int .i64 E] 166)) by go_grown)
  have hlt3 : w.heap.size + 1 + 1 + 1 < ((((w.alloc (.cells #[.int .i64 c, .int .i64 l, .int .i64 h, .int .i64 p, .int .i64 s] 59)).alloc (.cells #[.int .i64 P, .int .i64 o] 166)).alloc (.cells #[.int .i64 0, .int .i64 0] 166)).alloc (.cells #[.int .i64 P, .int .i64 E] 166)).heap.size := by simp
  generalize ((((w.alloc (.cells #[.int .i64 c, .int .i64 l, .int .i64 h, .int .i64 p, .int .i64 s] 59)).alloc (.cells #[.int .i64 P, .int .i64 o] 166)).alloc (.cells #[.int .i64 0, .int .i64 0] 166)).alloc (.cells #[.int .i64 P, .int .i64 E] 166)) = W at *
  have hlt2 : w.heap.size + 1 + 1 < W.heap.size := by omega
  obtain ⟨xC0, yC0⟩ := bC 0 _ rfl
  obtain ⟨xC1, yC1⟩ := bC 1 _ rfl
  obtain ⟨xC2, yC2⟩ := bC 2 _ rfl
  obtain ⟨xC3, yC3⟩ := bC 3 _ rfl
  obtain ⟨xC4, yC4⟩ := bC 4 _ rfl
  obtain ⟨xL0, yL0⟩ := bL 0 _ rfl
  obtain ⟨xL1, yL1⟩ := bL 1 _ rfl
  obtain ⟨xR0, yR0⟩ := bR 0 _ rfl
  obtain ⟨xR1, yR1⟩ := bR 1 _ rfl
  obtain ⟨xS0, yS0⟩ := bS 0 _ rfl
  obtain ⟨xS1, yS1⟩ := bS 1 _ rfl
  clear bC bL bR bS
  go_upto_region 9 with (fail)
  have b8C : BoxF (W.setCell ⟨w.heap.size + 1 + 1 + 1, 1, none⟩ (.int .i64 (E - D2))) w.heap.size #[.int .i64 c, .int .i64 l, .int .i64 h, .int .i64 p, .int .i64 s] := boxF5 (by simp [go_sem, xC0, yC0]) (by simp [go_sem, xC1, yC1]) (by simp [go_sem, xC2, yC2]) (by simp [go_sem, xC3, yC3]) (by simp [go_sem, xC4, yC4])
  have b8L : BoxF (W.setCell ⟨w.heap.size + 1 + 1 + 1, 1, none⟩ (.int .i64 (E - D2))) (w.heap.size + 1) #[.int .i64 P, .int .i64 o] := boxF2 (by simp [go_sem, xL0, yL0]) (by simp [go_sem, xL1, yL1])
  have b8R : BoxF (W.setCell ⟨w.heap.size + 1 + 1 + 1, 1, none⟩ (.int .i64 (E - D2))) (w.heap.size + 1 + 1) #[.int .i64 0, .int .i64 0] := boxF2 (by simp [go_sem, xR0, yR0]) (by simp [go_sem, xR1, yR1])
  have b8S : BoxF (W.setCell ⟨w.heap.size + 1 + 1 + 1, 1, none⟩ (.int .i64 (E - D2))) (w.heap.size + 1 + 1 + 1) #[.int .i64 P, .int .i64 (E - D2)] := boxF2 (by simp [go_sem, xS0, yS0]) (by simp [go_sem, xS1, yS1])
  have FB8 := Lib.hid (show Below w.heap.size w (W.setCell ⟨w.heap.size + 1 + 1 + 1, 1, none⟩ (.int .i64 (E - D2))) from FB.out.setCell (by simp <;> omega) _)
  have hlt8 : w.heap.size + 1 + 1 + 1 < (W.setCell ⟨w.heap.size + 1 + 1 + 1, 1, none⟩ (.int .i64 (E - D2))).heap.size := by simpa [World.setCell] using hlt3
  generalize (W.setCell ⟨w.heap.size + 1 + 1 + 1, 1, none⟩ (.int .i64 (E - D2))) = W8 at *
  clear FB hlt3 hlt2
  clear xC0 yC0 xC1 yC1 xC2 yC2 xC3 yC3 xC4 yC4
  clear xL0 yL0 xL1 yL1
  clear xR0 yR0 xR1 yR1
  clear xS0 yS0 xS1 yS1
  obtain ⟨xC0, yC0⟩ := b8C 0 _ rfl
  obtain ⟨xC1, yC1⟩ := b8C 1 _ rfl
  obtain ⟨xC2, yC2⟩ := b8C 2 _ rfl
  obtain ⟨xC3, yC3⟩ := b8C 3 _ rfl
  obtain ⟨xC4, yC4⟩ := b8C 4 _ rfl
  obtain ⟨xL0, yL0⟩ := b8L 0 _ rfl
  obtain ⟨xL1, yL1⟩ := b8L 1 _ rfl
  obtain ⟨xR0, yR0⟩ := b8R 0 _ rfl
  obtain ⟨xR1, yR1⟩ := b8R 1 _ rfl
  obtain ⟨xS0, yS0⟩ := b8S 0 _ rfl
  obtain ⟨xS1, yS1⟩ := b8S 1 _ rfl
  clear b8C b8L b8R b8S
  have FB := FB8
  have hlt3 := hlt8
  clear FB8 hlt8
  go_wp2_with fail
  refine (BD2.out _).mono ?_
  rintro e _ ⟨rfl, rfl⟩
  go_wp2
  go_region
  go_wp2
  refine bodyPost_ret (v := .tuple #[.int .i64 1, .int .i64 E, .agg #[.int .i64 P, .int .i64 Q2]]) (by simp [results, Try.results108, go_sem, xR0, yR0, xR1, yR1]) rfl ⟨rfl, ?_⟩
  exact ((((FB.out.setCell (by simp <;> omega) _).setCell (by simp <;> omega) _).setCell (by simp <;> omega) _).drew)
set_option maxHeartbeats 8000000 in
theorem l03Step_3 (c l h p s P o gap N E : Int) (w : World) (hp0 : ¬ p = 0) (hs0 : s = 0) (f1 : 2 ≤ l ∧ l ≤ 400) (f2 : 2 ≤ h ∧ h ≤ 400) (f3 : 0 ≤ p ∧ p ≤ 64) (f4 : 0 ≤ s ∧ s ≤ 64) (p1 : 128 ≤ P) (p2 : P ≤ 25600) (o1 : -25600 ≤ o) (o2 : o ≤ 25600) (g1 : 1 ≤ gap) (g2 : gap ≤ 2000000) (r1 : l * 64 ≤ P) (r2 : P ≤ h * 64)
    (hN : stN P o gap = N) (hE : stE P o gap = E) (hXX : P ≤ gap * 64 + o + P / 2) :
    Calls Try.prog 108 #[.agg #[.int .i64 c, .int .i64 l, .int .i64 h, .int .i64 p, .int .i64 s], .agg #[.int .i64 P, .int .i64 o], .int .i64 gap] w fun e w' => e = .returned (.tuple #[.int .i64 N, .int .i64 E, .agg #[.int .i64 (stPer l h s P o gap), .int .i64 (stOff l h p s P o gap)]]) ∧ Below w.heap.size w w' := by
  obtain ⟨n1, n2, e1, e2, m1, m2⟩ := st_bd p1 p2 o1 o2 g1 g2
  have hpb := stPer0_bd (sp := s) f4.1 n1 p1 p2 e1 e2
  have hob := stOff0_bd (ph := p) f3.1 e1 e2
  have HV := Lib.hid (show stPer l h s P o gap = clampI (stPer0 s P (stN P o gap) (stE P o gap)) (l * 64) (h * 64) from rfl)
  have HW := Lib.hid (show stOff l h p s P o gap = clampI (stOff0 p (stE P o gap)) (-(stPer l h s P o gap)) (stPer l h s P o gap) from rfl)
  rw [HW.out, HV.out]
  rw [hN, hE] at hpb ⊢
  rw [hE] at hob
  rw [hN] at n1 n2 m1 m2
  rw [hE] at e1 e2
  clear HV HW
  have hp2 : P.tdiv 2 = P / 2 := Int.tdiv_eq_ediv_of_nonneg (by omega)
  have HQB := Lib.hid (stQ_bd p1 p2 o1 o2 g1 g2)
  have hEE := hE
  unfold stE at hEE
  rw [hN] at hEE
  unfold stN at hN
  rw [hp2] at hN HQB
  obtain ⟨X, hX⟩ : ∃ X, gap * 64 + o + P / 2 = X := ⟨_, rfl⟩
  rw [hX] at hN HQB hXX
  have hq : X.tdiv P = N := by
    rw [← hN]
    have h1 : 1 ≤ X.tdiv P := by
      rw [Int.tdiv_eq_ediv_of_nonneg (by omega)]
      exact (Int.le_ediv_iff_mul_le (by omega)).2 (by omega)
    omega
  have hwq : wrap64 N = N := by unfold wrap64; omega
  have hwq2 : IntKind.i64.wrap N = N := IntWalk.i64_in _ (by omega)
  have hXa : P ≤ X := hXX
  have hP0 : ¬ P = 0 := by omega
  obtain ⟨M, hM⟩ : ∃ M, N * P = M := ⟨_, rfl⟩
  rw [hM] at hEE m1 m2
  have hwM : wrap64 M = M := by unfold wrap64; omega
  have hwE : wrap64 (gap * 64 + o - M) = E := by unfold wrap64; omega
  have HM := Lib.hid (And.intro hM (And.intro hX (And.intro hN (And.intro hEE hE))))
  have HO := Lib.hid (show stOff0 p E = E - E.tdiv p by unfold stOff0; rw [if_neg hp0])
  have hp9 : (0 : Int) < p := by omega
  have hp8 : ¬ p = 0 := hp0
  have hp7 : (p == 0) = false := by simp [hp0]
  obtain ⟨D2, hD2⟩ : ∃ y, E.tdiv p = y := ⟨_, rfl⟩
  have hDb2 := tdiv_bd (d := p) (by omega) (e := E) (by omega) (by omega)
  rw [hD2] at hDb2
  have hwD3 : wrap64 D2 = D2 := by unfold wrap64; omega
  have hwD4 : IntKind.i64.wrap D2 = D2 := IntWalk.i64_in _ (by omega)
  have HPP := Lib.hid (show clampI (stPer0 s P N E) (l * 64) (h * 64) = P by unfold stPer0; rw [if_pos hs0]; exact clampI_in r1 r2)
  have hs1 : ¬ (0 : Int) < s := by omega
  have BD2 := Lib.hid (fun w => l03Clamp_any (E - D2) (-P) P w)
  rw [HO.out, HPP.out]
  rw [hD2]
  obtain ⟨Q2, hQ2⟩ : ∃ y, clampI (E - D2) (-P) P = y := ⟨_, rfl⟩
  rw [hQ2] at BD2 ⊢
  clear hp0 hs0 hXX hN hE hEE hQ2 hp2
  go_enter Try.func108, Try.ntmps108
  go_upto_region 7 with (fail)
  try simp only [HM.out.2.2.2.1]
  have bC : BoxF ((((w.alloc (.cells #[.int .i64 c, .int .i64 l, .int .i64 h, .int .i64 p, .int .i64 s] 59)).alloc (.cells #[.int .i64 P, .int .i64 o] 166)).alloc (.cells #[.int .i64 0, .int .i64 0] 166)).alloc (.cells #[.int .i64 P, .int .i64 E] 166)) w.heap.size #[.int .i64 c, .int .i64 l, .int .i64 h, .int .i64 p, .int .i64 s] := boxF5 (by simp [go_sem]) (by simp [go_sem]) (by simp [go_sem]) (by simp [go_sem]) (by simp [go_sem])
  have bL : BoxF ((((w.alloc (.cells #[.int .i64 c, .int .i64 l, .int .i64 h, .int .i64 p, .int .i64 s] 59)).alloc (.cells #[.int .i64 P, .int .i64 o] 166)).alloc (.cells #[.int .i64 0, .int .i64 0] 166)).alloc (.cells #[.int .i64 P, .int .i64 E] 166)) (w.heap.size + 1) #[.int .i64 P, .int .i64 o] := boxF2 (by simp [go_sem]) (by simp [go_sem])
  have bR : BoxF ((((w.alloc (.cells #[.int .i64 c, .int .i64 l, .int .i64 h, .int .i64 p, .int .i64 s] 59)).alloc (.cells #[.int .i64 P, .int .i64 o] 166)).alloc (.cells #[.int .i64 0, .int .i64 0] 166)).alloc (.cells #[.int .i64 P, .int .i64 E] 166)) (w.heap.size + 1 + 1) #[.int .i64 0, .int .i64 0] := boxF2 (by simp [go_sem]) (by simp [go_sem])
  have bS : BoxF ((((w.alloc (.cells #[.int .i64 c, .int .i64 l, .int .i64 h, .int .i64 p, .int .i64 s] 59)).alloc (.cells #[.int .i64 P, .int .i64 o] 166)).alloc (.cells #[.int .i64 0, .int .i64 0] 166)).alloc (.cells #[.int .i64 P, .int .i64 E] 166)) (w.heap.size + 1 + 1 + 1) #[.int .i64 P, .int .i64 E] := boxF2 (by simp [go_sem]) (by simp [go_sem])
  have FB := Lib.hid (show Below w.heap.size w ((((w.alloc (.cells #[.int .i64 c, .int .i64 l, .int .i64 h, .int .i64 p, .int .i64 s] 59)).alloc (.cells #[.int .i64 P, .int .i64 o] 166)).alloc (.cells #[.int .i64 0, .int .i64 0] 166)).alloc (.cells #[.int .i64 P, .int .i64 E] 166)) by go_grown)
  have hlt3 : w.heap.size + 1 + 1 + 1 < ((((w.alloc (.cells #[.int .i64 c, .int .i64 l, .int .i64 h, .int .i64 p, .int .i64 s] 59)).alloc (.cells #[.int .i64 P, .int .i64 o] 166)).alloc (.cells #[.int .i64 0, .int .i64 0] 166)).alloc (.cells #[.int .i64 P, .int .i64 E] 166)).heap.size := by simp
  generalize ((((w.alloc (.cells #[.int .i64 c, .int .i64 l, .int .i64 h, .int .i64 p, .int .i64 s] 59)).alloc (.cells #[.int .i64 P, .int .i64 o] 166)).alloc (.cells #[.int .i64 0, .int .i64 0] 166)).alloc (.cells #[.int .i64 P, .int .i64 E] 166)) = W at *
  have hlt2 : w.heap.size + 1 + 1 < W.heap.size := by omega
  obtain ⟨xC0, yC0⟩ := bC 0 _ rfl
  obtain ⟨xC1, yC1⟩ := bC 1 _ rfl
  obtain ⟨xC2, yC2⟩ := bC 2 _ rfl
  obtain ⟨xC3, yC3⟩ := bC 3 _ rfl
  obtain ⟨xC4, yC4⟩ := bC 4 _ rfl
  obtain ⟨xL0, yL0⟩ := bL 0 _ rfl
  obtain ⟨xL1, yL1⟩ := bL 1 _ rfl
  obtain ⟨xR0, yR0⟩ := bR 0 _ rfl
  obtain ⟨xR1, yR1⟩ := bR 1 _ rfl
  obtain ⟨xS0, yS0⟩ := bS 0 _ rfl
  obtain ⟨xS1, yS1⟩ := bS 1 _ rfl
  clear bC bL bR bS
  go_upto_region 9 with (fail)
  have b8C : BoxF (W.setCell ⟨w.heap.size + 1 + 1 + 1, 1, none⟩ (.int .i64 (E - D2))) w.heap.size #[.int .i64 c, .int .i64 l, .int .i64 h, .int .i64 p, .int .i64 s] := boxF5 (by simp [go_sem, xC0, yC0]) (by simp [go_sem, xC1, yC1]) (by simp [go_sem, xC2, yC2]) (by simp [go_sem, xC3, yC3]) (by simp [go_sem, xC4, yC4])
  have b8L : BoxF (W.setCell ⟨w.heap.size + 1 + 1 + 1, 1, none⟩ (.int .i64 (E - D2))) (w.heap.size + 1) #[.int .i64 P, .int .i64 o] := boxF2 (by simp [go_sem, xL0, yL0]) (by simp [go_sem, xL1, yL1])
  have b8R : BoxF (W.setCell ⟨w.heap.size + 1 + 1 + 1, 1, none⟩ (.int .i64 (E - D2))) (w.heap.size + 1 + 1) #[.int .i64 0, .int .i64 0] := boxF2 (by simp [go_sem, xR0, yR0]) (by simp [go_sem, xR1, yR1])
  have b8S : BoxF (W.setCell ⟨w.heap.size + 1 + 1 + 1, 1, none⟩ (.int .i64 (E - D2))) (w.heap.size + 1 + 1 + 1) #[.int .i64 P, .int .i64 (E - D2)] := boxF2 (by simp [go_sem, xS0, yS0]) (by simp [go_sem, xS1, yS1])
  have FB8 := Lib.hid (show Below w.heap.size w (W.setCell ⟨w.heap.size + 1 + 1 + 1, 1, none⟩ (.int .i64 (E - D2))) from FB.out.setCell (by simp <;> omega) _)
  have hlt8 : w.heap.size + 1 + 1 + 1 < (W.setCell ⟨w.heap.size + 1 + 1 + 1, 1, none⟩ (.int .i64 (E - D2))).heap.size := by simpa [World.setCell] using hlt3
  generalize (W.setCell ⟨w.heap.size + 1 + 1 + 1, 1, none⟩ (.int .i64 (E - D2))) = W8 at *
  clear FB hlt3 hlt2
  clear xC0 yC0 xC1 yC1 xC2 yC2 xC3 yC3 xC4 yC4
  clear xL0 yL0 xL1 yL1
  clear xR0 yR0 xR1 yR1
  clear xS0 yS0 xS1 yS1
  obtain ⟨xC0, yC0⟩ := b8C 0 _ rfl
  obtain ⟨xC1, yC1⟩ := b8C 1 _ rfl
  obtain ⟨xC2, yC2⟩ := b8C 2 _ rfl
  obtain ⟨xC3, yC3⟩ := b8C 3 _ rfl
  obtain ⟨xC4, yC4⟩ := b8C 4 _ rfl
  obtain ⟨xL0, yL0⟩ := b8L 0 _ rfl
  obtain ⟨xL1, yL1⟩ := b8L 1 _ rfl
  obtain ⟨xR0, yR0⟩ := b8R 0 _ rfl
  obtain ⟨xR1, yR1⟩ := b8R 1 _ rfl
  obtain ⟨xS0, yS0⟩ := b8S 0 _ rfl
  obtain ⟨xS1, yS1⟩ := b8S 1 _ rfl
  clear b8C b8L b8R b8S
  have FB := FB8
  have hlt3 := hlt8
  clear FB8 hlt8
  go_wp2_with fail
  refine (BD2.out _).mono ?_
  rintro e _ ⟨rfl, rfl⟩
  go_wp2
  go_region
  go_wp2
  refine bodyPost_ret (v := .tuple #[.int .i64 N, .int .i64 E, .agg #[.int .i64 P, .int .i64 Q2]]) (by simp [results, Try.results108, go_sem, xR0, yR0, xR1, yR1]) rfl ⟨rfl, ?_⟩
  exact ((((FB.out.setCell (by simp <;> omega) _).setCell (by simp <;> omega) _).setCell (by simp <;> omega) _).drew)
set_option maxHeartbeats 8000000 in
theorem l03Step_4 (c l h p s P o gap N E : Int) (w : World) (hp0 : p = 0) (hs0 : ¬ s = 0) (f1 : 2 ≤ l ∧ l ≤ 400) (f2 : 2 ≤ h ∧ h ≤ 400) (f3 : 0 ≤ p ∧ p ≤ 64) (f4 : 0 ≤ s ∧ s ≤ 64) (p1 : 128 ≤ P) (p2 : P ≤ 25600) (o1 : -25600 ≤ o) (o2 : o ≤ 25600) (g1 : 1 ≤ gap) (g2 : gap ≤ 2000000) (r1 : l * 64 ≤ P) (r2 : P ≤ h * 64)
    (hN : stN P o gap = N) (hE : stE P o gap = E) (hXX : ¬ P ≤ gap * 64 + o + P / 2) :
    Calls Try.prog 108 #[.agg #[.int .i64 c, .int .i64 l, .int .i64 h, .int .i64 p, .int .i64 s], .agg #[.int .i64 P, .int .i64 o], .int .i64 gap] w fun e w' => e = .returned (.tuple #[.int .i64 N, .int .i64 E, .agg #[.int .i64 (stPer l h s P o gap), .int .i64 (stOff l h p s P o gap)]]) ∧ Below w.heap.size w w' := by
  obtain ⟨n1, n2, e1, e2, m1, m2⟩ := st_bd p1 p2 o1 o2 g1 g2
  have hpb := stPer0_bd (sp := s) f4.1 n1 p1 p2 e1 e2
  have hob := stOff0_bd (ph := p) f3.1 e1 e2
  have HV := Lib.hid (show stPer l h s P o gap = clampI (stPer0 s P (stN P o gap) (stE P o gap)) (l * 64) (h * 64) from rfl)
  have HW := Lib.hid (show stOff l h p s P o gap = clampI (stOff0 p (stE P o gap)) (-(stPer l h s P o gap)) (stPer l h s P o gap) from rfl)
  rw [HW.out, HV.out]
  rw [hN, hE] at hpb ⊢
  rw [hE] at hob
  rw [hN] at n1 n2 m1 m2
  rw [hE] at e1 e2
  clear HV HW
  have hp2 : P.tdiv 2 = P / 2 := Int.tdiv_eq_ediv_of_nonneg (by omega)
  have HQB := Lib.hid (stQ_bd p1 p2 o1 o2 g1 g2)
  have hEE := hE
  unfold stE at hEE
  rw [hN] at hEE
  unfold stN at hN
  rw [hp2] at hN HQB
  obtain ⟨X, hX⟩ : ∃ X, gap * 64 + o + P / 2 = X := ⟨_, rfl⟩
  rw [hX] at hN HQB hXX
  have hN1 : N = 1 := by
    rw [← hN]
    have h1 : X.tdiv P < 1 := by
      by_cases h0 : 0 ≤ X
      · rw [Int.tdiv_eq_ediv_of_nonneg h0, Int.ediv_eq_zero_of_lt h0 (by omega)]; omega
      · have h2 := Int.tdiv_nonneg (a := -X) (b := P) (by omega) (by omega)
        rw [Int.neg_tdiv] at h2; omega
    omega
  have hXa : ¬ P ≤ X := hXX
  subst hN1
  have hP0 : ¬ P = 0 := by omega
  rw [Int.one_mul] at hEE m1 m2
  have hwE : wrap64 (gap * 64 + o - P) = E := by unfold wrap64; omega
  have HM := Lib.hid (And.intro rfl (And.intro hX (And.intro hN (And.intro hEE hE))) : (1 : Nat) = 1 ∧ _)
  have HO := Lib.hid (show stOff0 p E = E by unfold stOff0; rw [if_pos hp0])
  have hp9 : ¬ (0 : Int) < p := by omega
  have HPP := Lib.hid (show clampI (stPer0 s P 1 E) (l * 64) (h * 64) = clampI (P + E.tdiv (1 * s)) (l * 64) (h * 64) by unfold stPer0; rw [if_neg hs0])
  have hs1 : (0 : Int) < s := by omega
  have hns : 1 ≤ 1 * s ∧ 1 * s ≤ 200000000 := by
    have h1 := Int.mul_le_mul n1 (show 1 ≤ s by omega) (by omega) (by omega)
    have h2 := Int.mul_le_mul n2 (show s ≤ 64 by omega) (by omega) (by omega)
    omega
  unfold stPer0 at hpb
  rw [if_neg hs0] at hpb
  rw [Int.one_mul] at hns hpb HPP
  obtain ⟨D, hD⟩ : ∃ y, E.tdiv s = y := ⟨_, rfl⟩
  have hDb := tdiv_bd hns.1 (e := E) (by omega) (by omega)
  rw [hD] at hpb hDb HPP
  have hwN : wrap64 s = s := by unfold wrap64; omega
  have hwD : wrap64 D = D := by unfold wrap64; omega
  have hwD2 : IntKind.i64.wrap D = D := IntWalk.i64_in _ (by omega)
  have hNS0 : ¬ s = 0 := by omega
  have hNS1 : (s == 0) = false := by simp [hNS0]
  have hNS2 : IntKind.i64.wrap s = s := IntWalk.i64_in _ (by omega)
  have hPD : wrap64 (P + D) = P + D := by unfold wrap64; omega
  have hPD2 : IntKind.i64.wrap (P + D) = P + D := IntWalk.i64_in _ (by omega)
  have hl65 : IntKind.i64.wrap (l * 64) = l * 64 := IntWalk.i64_in _ (by omega)
  have hh65 : IntKind.i64.wrap (h * 64) = h * 64 := IntWalk.i64_in _ (by omega)
  have hl64 : wrap64 (l * 64) = l * 64 := by unfold wrap64; omega
  have hh64 : wrap64 (h * 64) = h * 64 := by unfold wrap64; omega
  have BD1 := Lib.hid (fun w => l03Clamp_any (P + D) (l * 64) (h * 64) w)
  have hbdQ := clampI_bd (n := P + D) (lo := l * 64) (hi := h * 64) (by omega)
  rw [HPP.out]
  obtain ⟨Q, hQ⟩ : ∃ y, clampI (P + D) (l * 64) (h * 64) = y := ⟨_, rfl⟩
  rw [hQ] at BD1 hbdQ ⊢
  clear hQ
  have BD2 := Lib.hid (fun w => l03Clamp_any E (-Q) Q w)
  rw [HO.out]
  obtain ⟨Q2, hQ2⟩ : ∃ y, clampI E (-Q) Q = y := ⟨_, rfl⟩
  rw [hQ2] at BD2 ⊢
  clear hp0 hs0 hXX hN hE hEE hQ2 hp2
  go_enter Try.func108, Try.ntmps108
  go_upto_region 7 with (fail)
  try simp only [HM.out.2.2.2.1]
  have bC : BoxF ((((w.alloc (.cells #[.int .i64 c, .int .i64 l, .int .i64 h, .int .i64 p, .int .i64 s] 59)).alloc (.cells #[.int .i64 P, .int .i64 o] 166)).alloc (.cells #[.int .i64 0, .int .i64 0] 166)).alloc (.cells #[.int .i64 P, .int .i64 E] 166)) w.heap.size #[.int .i64 c, .int .i64 l, .int .i64 h, .int .i64 p, .int .i64 s] := boxF5 (by simp [go_sem]) (by simp [go_sem]) (by simp [go_sem]) (by simp [go_sem]) (by simp [go_sem])
  have bL : BoxF ((((w.alloc (.cells #[.int .i64 c, .int .i64 l, .int .i64 h, .int .i64 p, .int .i64 s] 59)).alloc (.cells #[.int .i64 P, .int .i64 o] 166)).alloc (.cells #[.int .i64 0, .int .i64 0] 166)).alloc (.cells #[.int .i64 P, .int .i64 E] 166)) (w.heap.size + 1) #[.int .i64 P, .int .i64 o] := boxF2 (by simp [go_sem]) (by simp [go_sem])
  have bR : BoxF ((((w.alloc (.cells #[.int .i64 c, .int .i64 l, .int .i64 h, .int .i64 p, .int .i64 s] 59)).alloc (.cells #[.int .i64 P, .int .i64 o] 166)).alloc (.cells #[.int .i64 0, .int .i64 0] 166)).alloc (.cells #[.int .i64 P, .int .i64 E] 166)) (w.heap.size + 1 + 1) #[.int .i64 0, .int .i64 0] := boxF2 (by simp [go_sem]) (by simp [go_sem])
  have bS : BoxF ((((w.alloc (.cells #[.int .i64 c, .int .i64 l, .int .i64 h, .int .i64 p, .int .i64 s] 59)).alloc (.cells #[.int .i64 P, .int .i64 o] 166)).alloc (.cells #[.int .i64 0, .int .i64 0] 166)).alloc (.cells #[.int .i64 P, .int .i64 E] 166)) (w.heap.size + 1 + 1 + 1) #[.int .i64 P, .int .i64 E] := boxF2 (by simp [go_sem]) (by simp [go_sem])
  have FB := Lib.hid (show Below w.heap.size w ((((w.alloc (.cells #[.int .i64 c, .int .i64 l, .int .i64 h, .int .i64 p, .int .i64 s] 59)).alloc (.cells #[.int .i64 P, .int .i64 o] 166)).alloc (.cells #[.int .i64 0, .int .i64 0] 166)).alloc (.cells #[.int .i64 P, .int .i64 E] 166)) by go_grown)
  have hlt3 : w.heap.size + 1 + 1 + 1 < ((((w.alloc (.cells #[.int .i64 c, .int .i64 l, .int .i64 h, .int .i64 p, .int .i64 s] 59)).alloc (.cells #[.int .i64 P, .int .i64 o] 166)).alloc (.cells #[.int .i64 0, .int .i64 0] 166)).alloc (.cells #[.int .i64 P, .int .i64 E] 166)).heap.size := by simp
  generalize ((((w.alloc (.cells #[.int .i64 c, .int .i64 l, .int .i64 h, .int .i64 p, .int .i64 s] 59)).alloc (.cells #[.int .i64 P, .int .i64 o] 166)).alloc (.cells #[.int .i64 0, .int .i64 0] 166)).alloc (.cells #[.int .i64 P, .int .i64 E] 166)) = W at *
  have hlt2 : w.heap.size + 1 + 1 < W.heap.size := by omega
  obtain ⟨xC0, yC0⟩ := bC 0 _ rfl
  obtain ⟨xC1, yC1⟩ := bC 1 _ rfl
  obtain ⟨xC2, yC2⟩ := bC 2 _ rfl
  obtain ⟨xC3, yC3⟩ := bC 3 _ rfl
  obtain ⟨xC4, yC4⟩ := bC 4 _ rfl
  obtain ⟨xL0, yL0⟩ := bL 0 _ rfl
  obtain ⟨xL1, yL1⟩ := bL 1 _ rfl
  obtain ⟨xR0, yR0⟩ := bR 0 _ rfl
  obtain ⟨xR1, yR1⟩ := bR 1 _ rfl
  obtain ⟨xS0, yS0⟩ := bS 0 _ rfl
  obtain ⟨xS1, yS1⟩ := bS 1 _ rfl
  clear bC bL bR bS
  have hks : W.cell? ⟨w.heap.size, 1, none⟩ = some (.int .i64 l) ∧ W.cell? ⟨w.heap.size, 2, none⟩ = some (.int .i64 h) ∧ W.cell? ⟨w.heap.size, 4, none⟩ = some (.int .i64 s) ∧ W.cell? ⟨w.heap.size + 1, 0, none⟩ = some (.int .i64 P) := ⟨xC1, xC2, xC4, xL0⟩
  go_wp2
  go_region_held3 (fun w' => w'.cell? ⟨w.heap.size, 1, none⟩ = some (.int .i64 l) ∧ w'.cell? ⟨w.heap.size, 2, none⟩ = some (.int .i64 h) ∧ w'.cell? ⟨w.heap.size, 4, none⟩ = some (.int .i64 s) ∧ w'.cell? ⟨w.heap.size + 1, 0, none⟩ = some (.int .i64 P))
    (first | (with_reducible exact hks) | (simp [go_sem, xC1, xC2, xC4, xL0]) | go_keep)
    (first | (go_at_call 125; ((with_reducible refine (BD1.out _).mono ?_); rintro e _ ⟨rfl, rfl⟩)) | fail)
  all_goals
    have b6S : BoxF (W.setCell ⟨w.heap.size + 1 + 1 + 1, 0, none⟩ (.int .i64 Q)).drew (w.heap.size + 1 + 1 + 1) #[.int .i64 Q, .int .i64 E] := boxF2 (by simp [go_sem, xS0, yS0]) (by simp [go_sem, xS1, yS1])
    have b6R : BoxF (W.setCell ⟨w.heap.size + 1 + 1 + 1, 0, none⟩ (.int .i64 Q)).drew (w.heap.size + 1 + 1) #[.int .i64 0, .int .i64 0] := boxF2 (by simp [go_sem, xR0, yR0]) (by simp [go_sem, xR1, yR1])
    have FB6 := Lib.hid (show Below w.heap.size w (W.setCell ⟨w.heap.size + 1 + 1 + 1, 0, none⟩ (.int .i64 Q)).drew from (FB.out.setCell (by simp <;> omega) _).drew)
    have hl6 : w.heap.size + 1 + 1 + 1 < (W.setCell ⟨w.heap.size + 1 + 1 + 1, 0, none⟩ (.int .i64 Q)).drew.heap.size := by simpa [World.setCell] using hlt3
    generalize (W.setCell ⟨w.heap.size + 1 + 1 + 1, 0, none⟩ (.int .i64 Q)).drew = w6 at *
    clear xC0 yC0 xC1 yC1 xC2 yC2 xC3 yC3 xC4 yC4 xL0 yL0 xL1 yL1 xR0 yR0 xR1 yR1 xS0 yS0 xS1 yS1 hks
    obtain ⟨xS0, yS0⟩ := b6S 0 _ rfl
    obtain ⟨xS1, yS1⟩ := b6S 1 _ rfl
    obtain ⟨xR0, yR0⟩ := b6R 0 _ rfl
    obtain ⟨xR1, yR1⟩ := b6R 1 _ rfl
    go_wp2_with fail
    refine (BD2.out _).mono ?_
    rintro e _ ⟨rfl, rfl⟩
    go_wp2
    go_region
    go_wp2
    refine bodyPost_ret (v := .tuple #[.int .i64 1, .int .i64 E, .agg #[.int .i64 Q, .int .i64 Q2]]) (by simp [results, Try.results108, go_sem, xR0, yR0, xR1, yR1]) rfl ⟨rfl, ?_⟩
    exact ((((FB6.out.setCell (by simp <;> omega) _).setCell (by simp <;> omega) _).setCell (by simp <;> omega) _).drew)
set_option maxHeartbeats 8000000 in
theorem l03Step_5 (c l h p s P o gap N E : Int) (w : World) (hp0 : p = 0) (hs0 : ¬ s = 0) (f1 : 2 ≤ l ∧ l ≤ 400) (f2 : 2 ≤ h ∧ h ≤ 400) (f3 : 0 ≤ p ∧ p ≤ 64) (f4 : 0 ≤ s ∧ s ≤ 64) (p1 : 128 ≤ P) (p2 : P ≤ 25600) (o1 : -25600 ≤ o) (o2 : o ≤ 25600) (g1 : 1 ≤ gap) (g2 : gap ≤ 2000000) (r1 : l * 64 ≤ P) (r2 : P ≤ h * 64)
    (hN : stN P o gap = N) (hE : stE P o gap = E) (hXX : P ≤ gap * 64 + o + P / 2) :
    Calls Try.prog 108 #[.agg #[.int .i64 c, .int .i64 l, .int .i64 h, .int .i64 p, .int .i64 s], .agg #[.int .i64 P, .int .i64 o], .int .i64 gap] w fun e w' => e = .returned (.tuple #[.int .i64 N, .int .i64 E, .agg #[.int .i64 (stPer l h s P o gap), .int .i64 (stOff l h p s P o gap)]]) ∧ Below w.heap.size w w' := by
  obtain ⟨n1, n2, e1, e2, m1, m2⟩ := st_bd p1 p2 o1 o2 g1 g2
  have hpb := stPer0_bd (sp := s) f4.1 n1 p1 p2 e1 e2
  have hob := stOff0_bd (ph := p) f3.1 e1 e2
  have HV := Lib.hid (show stPer l h s P o gap = clampI (stPer0 s P (stN P o gap) (stE P o gap)) (l * 64) (h * 64) from rfl)
  have HW := Lib.hid (show stOff l h p s P o gap = clampI (stOff0 p (stE P o gap)) (-(stPer l h s P o gap)) (stPer l h s P o gap) from rfl)
  rw [HW.out, HV.out]
  rw [hN, hE] at hpb ⊢
  rw [hE] at hob
  rw [hN] at n1 n2 m1 m2
  rw [hE] at e1 e2
  clear HV HW
  have hp2 : P.tdiv 2 = P / 2 := Int.tdiv_eq_ediv_of_nonneg (by omega)
  have HQB := Lib.hid (stQ_bd p1 p2 o1 o2 g1 g2)
  have hEE := hE
  unfold stE at hEE
  rw [hN] at hEE
  unfold stN at hN
  rw [hp2] at hN HQB
  obtain ⟨X, hX⟩ : ∃ X, gap * 64 + o + P / 2 = X := ⟨_, rfl⟩
  rw [hX] at hN HQB hXX
  have hq : X.tdiv P = N := by
    rw [← hN]
    have h1 : 1 ≤ X.tdiv P := by
      rw [Int.tdiv_eq_ediv_of_nonneg (by omega)]
      exact (Int.le_ediv_iff_mul_le (by omega)).2 (by omega)
    omega
  have hwq : wrap64 N = N := by unfold wrap64; omega
  have hwq2 : IntKind.i64.wrap N = N := IntWalk.i64_in _ (by omega)
  have hXa : P ≤ X := hXX
  have hP0 : ¬ P = 0 := by omega
  obtain ⟨M, hM⟩ : ∃ M, N * P = M := ⟨_, rfl⟩
  rw [hM] at hEE m1 m2
  have hwM : wrap64 M = M := by unfold wrap64; omega
  have hwE : wrap64 (gap * 64 + o - M) = E := by unfold wrap64; omega
  have HM := Lib.hid (And.intro hM (And.intro hX (And.intro hN (And.intro hEE hE))))
  have HO := Lib.hid (show stOff0 p E = E by unfold stOff0; rw [if_pos hp0])
  have hp9 : ¬ (0 : Int) < p := by omega
  have HPP := Lib.hid (show clampI (stPer0 s P N E) (l * 64) (h * 64) = clampI (P + E.tdiv (N * s)) (l * 64) (h * 64) by unfold stPer0; rw [if_neg hs0])
  have hs1 : (0 : Int) < s := by omega
  have hns : 1 ≤ N * s ∧ N * s ≤ 200000000 := by
    have h1 := Int.mul_le_mul n1 (show 1 ≤ s by omega) (by omega) (by omega)
    have h2 := Int.mul_le_mul n2 (show s ≤ 64 by omega) (by omega) (by omega)
    omega
  unfold stPer0 at hpb
  rw [if_neg hs0] at hpb
  obtain ⟨NS, hNS⟩ : ∃ y, N * s = y := ⟨_, rfl⟩
  rw [hNS] at hns hpb HPP
  obtain ⟨D, hD⟩ : ∃ y, E.tdiv NS = y := ⟨_, rfl⟩
  have hDb := tdiv_bd hns.1 (e := E) (by omega) (by omega)
  rw [hD] at hpb hDb HPP
  have hwN : wrap64 NS = NS := by unfold wrap64; omega
  have hwD : wrap64 D = D := by unfold wrap64; omega
  have hwD2 : IntKind.i64.wrap D = D := IntWalk.i64_in _ (by omega)
  have hNS0 : ¬ NS = 0 := by omega
  have hNS1 : (NS == 0) = false := by simp [hNS0]
  have hNS2 : IntKind.i64.wrap NS = NS := IntWalk.i64_in _ (by omega)
  have hPD : wrap64 (P + D) = P + D := by unfold wrap64; omega
  have hPD2 : IntKind.i64.wrap (P + D) = P + D := IntWalk.i64_in _ (by omega)
  have hl65 : IntKind.i64.wrap (l * 64) = l * 64 := IntWalk.i64_in _ (by omega)
  have hh65 : IntKind.i64.wrap (h * 64) = h * 64 := IntWalk.i64_in _ (by omega)
  have hl64 : wrap64 (l * 64) = l * 64 := by unfold wrap64; omega
  have hh64 : wrap64 (h * 64) = h * 64 := by unfold wrap64; omega
  have BD1 := Lib.hid (fun w => l03Clamp_any (P + D) (l * 64) (h * 64) w)
  have hbdQ := clampI_bd (n := P + D) (lo := l * 64) (hi := h * 64) (by omega)
  rw [HPP.out]
  obtain ⟨Q, hQ⟩ : ∃ y, clampI (P + D) (l * 64) (h * 64) = y := ⟨_, rfl⟩
  rw [hQ] at BD1 hbdQ ⊢
  clear hQ
  have BD2 := Lib.hid (fun w => l03Clamp_any E (-Q) Q w)
  rw [HO.out]
  obtain ⟨Q2, hQ2⟩ : ∃ y, clampI E (-Q) Q = y := ⟨_, rfl⟩
  rw [hQ2] at BD2 ⊢
  clear hp0 hs0 hXX hN hE hEE hQ2 hp2
  go_enter Try.func108, Try.ntmps108
  go_upto_region 7 with (fail)
  try simp only [HM.out.2.2.2.1]
  have bC : BoxF ((((w.alloc (.cells #[.int .i64 c, .int .i64 l, .int .i64 h, .int .i64 p, .int .i64 s] 59)).alloc (.cells #[.int .i64 P, .int .i64 o] 166)).alloc (.cells #[.int .i64 0, .int .i64 0] 166)).alloc (.cells #[.int .i64 P, .int .i64 E] 166)) w.heap.size #[.int .i64 c, .int .i64 l, .int .i64 h, .int .i64 p, .int .i64 s] := boxF5 (by simp [go_sem]) (by simp [go_sem]) (by simp [go_sem]) (by simp [go_sem]) (by simp [go_sem])
  have bL : BoxF ((((w.alloc (.cells #[.int .i64 c, .int .i64 l, .int .i64 h, .int .i64 p, .int .i64 s] 59)).alloc (.cells #[.int .i64 P, .int .i64 o] 166)).alloc (.cells #[.int .i64 0, .int .i64 0] 166)).alloc (.cells #[.int .i64 P, .int .i64 E] 166)) (w.heap.size + 1) #[.int .i64 P, .int .i64 o] := boxF2 (by simp [go_sem]) (by simp [go_sem])
  have bR : BoxF ((((w.alloc (.cells #[.int .i64 c, .int .i64 l, .int .i64 h, .int .i64 p, .int .i64 s] 59)).alloc (.cells #[.int .i64 P, .int .i64 o] 166)).alloc (.cells #[.int .i64 0, .int .i64 0] 166)).alloc (.cells #[.int .i64 P, .int .i64 E] 166)) (w.heap.size + 1 + 1) #[.int .i64 0, .int .i64 0] := boxF2 (by simp [go_sem]) (by simp [go_sem])
  have bS : BoxF ((((w.alloc (.cells #[.int .i64 c, .int .i64 l, .int .i64 h, .int .i64 p, .int .i64 s] 59)).alloc (.cells #[.int .i64 P, .int .i64 o] 166)).alloc (.cells #[.int .i64 0, .int .i64 0] 166)).alloc (.cells #[.int .i64 P, .int .i64 E] 166)) (w.heap.size + 1 + 1 + 1) #[.int .i64 P, .int .i64 E] := boxF2 (by simp [go_sem]) (by simp [go_sem])
  have FB := Lib.hid (show Below w.heap.size w ((((w.alloc (.cells #[.int .i64 c, .int .i64 l, .int .i64 h, .int .i64 p, .int .i64 s] 59)).alloc (.cells #[.int .i64 P, .int .i64 o] 166)).alloc (.cells #[.int .i64 0, .int .i64 0] 166)).alloc (.cells #[.int .i64 P, .int .i64 E] 166)) by go_grown)
  have hlt3 : w.heap.size + 1 + 1 + 1 < ((((w.alloc (.cells #[.int .i64 c, .int .i64 l, .int .i64 h, .int .i64 p, .int .i64 s] 59)).alloc (.cells #[.int .i64 P, .int .i64 o] 166)).alloc (.cells #[.int .i64 0, .int .i64 0] 166)).alloc (.cells #[.int .i64 P, .int .i64 E] 166)).heap.size := by simp
  generalize ((((w.alloc (.cells #[.int .i64 c, .int .i64 l, .int .i64 h, .int .i64 p, .int .i64 s] 59)).alloc (.cells #[.int .i64 P, .int .i64 o] 166)).alloc (.cells #[.int .i64 0, .int .i64 0] 166)).alloc (.cells #[.int .i64 P, .int .i64 E] 166)) = W at *
  have hlt2 : w.heap.size + 1 + 1 < W.heap.size := by omega
  obtain ⟨xC0, yC0⟩ := bC 0 _ rfl
  obtain ⟨xC1, yC1⟩ := bC 1 _ rfl
  obtain ⟨xC2, yC2⟩ := bC 2 _ rfl
  obtain ⟨xC3, yC3⟩ := bC 3 _ rfl
  obtain ⟨xC4, yC4⟩ := bC 4 _ rfl
  obtain ⟨xL0, yL0⟩ := bL 0 _ rfl
  obtain ⟨xL1, yL1⟩ := bL 1 _ rfl
  obtain ⟨xR0, yR0⟩ := bR 0 _ rfl
  obtain ⟨xR1, yR1⟩ := bR 1 _ rfl
  obtain ⟨xS0, yS0⟩ := bS 0 _ rfl
  obtain ⟨xS1, yS1⟩ := bS 1 _ rfl
  clear bC bL bR bS
  have hks : W.cell? ⟨w.heap.size, 1, none⟩ = some (.int .i64 l) ∧ W.cell? ⟨w.heap.size, 2, none⟩ = some (.int .i64 h) ∧ W.cell? ⟨w.heap.size, 4, none⟩ = some (.int .i64 s) ∧ W.cell? ⟨w.heap.size + 1, 0, none⟩ = some (.int .i64 P) := ⟨xC1, xC2, xC4, xL0⟩
  go_wp2
  go_region_held3 (fun w' => w'.cell? ⟨w.heap.size, 1, none⟩ = some (.int .i64 l) ∧ w'.cell? ⟨w.heap.size, 2, none⟩ = some (.int .i64 h) ∧ w'.cell? ⟨w.heap.size, 4, none⟩ = some (.int .i64 s) ∧ w'.cell? ⟨w.heap.size + 1, 0, none⟩ = some (.int .i64 P))
    (first | (with_reducible exact hks) | (simp [go_sem, xC1, xC2, xC4, xL0]) | go_keep)
    (first | (go_at_call 125; ((with_reducible refine (BD1.out _).mono ?_); rintro e _ ⟨rfl, rfl⟩)) | fail)
  all_goals
    have b6S : BoxF (W.setCell ⟨w.heap.size + 1 + 1 + 1, 0, none⟩ (.int .i64 Q)).drew (w.heap.size + 1 + 1 + 1) #[.int .i64 Q, .int .i64 E] := boxF2 (by simp [go_sem, xS0, yS0]) (by simp [go_sem, xS1, yS1])
    have b6R : BoxF (W.setCell ⟨w.heap.size + 1 + 1 + 1, 0, none⟩ (.int .i64 Q)).drew (w.heap.size + 1 + 1) #[.int .i64 0, .int .i64 0] := boxF2 (by simp [go_sem, xR0, yR0]) (by simp [go_sem, xR1, yR1])
    have FB6 := Lib.hid (show Below w.heap.size w (W.setCell ⟨w.heap.size + 1 + 1 + 1, 0, none⟩ (.int .i64 Q)).drew from (FB.out.setCell (by simp <;> omega) _).drew)
    have hl6 : w.heap.size + 1 + 1 + 1 < (W.setCell ⟨w.heap.size + 1 + 1 + 1, 0, none⟩ (.int .i64 Q)).drew.heap.size := by simpa [World.setCell] using hlt3
    generalize (W.setCell ⟨w.heap.size + 1 + 1 + 1, 0, none⟩ (.int .i64 Q)).drew = w6 at *
    clear xC0 yC0 xC1 yC1 xC2 yC2 xC3 yC3 xC4 yC4 xL0 yL0 xL1 yL1 xR0 yR0 xR1 yR1 xS0 yS0 xS1 yS1 hks
    obtain ⟨xS0, yS0⟩ := b6S 0 _ rfl
    obtain ⟨xS1, yS1⟩ := b6S 1 _ rfl
    obtain ⟨xR0, yR0⟩ := b6R 0 _ rfl
    obtain ⟨xR1, yR1⟩ := b6R 1 _ rfl
    go_wp2_with fail
    refine (BD2.out _).mono ?_
    rintro e _ ⟨rfl, rfl⟩
    go_wp2
    go_region
    go_wp2
    refine bodyPost_ret (v := .tuple #[.int .i64 N, .int .i64 E, .agg #[.int .i64 Q, .int .i64 Q2]]) (by simp [results, Try.results108, go_sem, xR0, yR0, xR1, yR1]) rfl ⟨rfl, ?_⟩
    exact ((((FB6.out.setCell (by simp <;> omega) _).setCell (by simp <;> omega) _).setCell (by simp <;> omega) _).drew)
set_option maxHeartbeats 8000000 in
theorem l03Step_6 (c l h p s P o gap N E : Int) (w : World) (hp0 : p = 0) (hs0 : s = 0) (f1 : 2 ≤ l ∧ l ≤ 400) (f2 : 2 ≤ h ∧ h ≤ 400) (f3 : 0 ≤ p ∧ p ≤ 64) (f4 : 0 ≤ s ∧ s ≤ 64) (p1 : 128 ≤ P) (p2 : P ≤ 25600) (o1 : -25600 ≤ o) (o2 : o ≤ 25600) (g1 : 1 ≤ gap) (g2 : gap ≤ 2000000) (r1 : l * 64 ≤ P) (r2 : P ≤ h * 64)
    (hN : stN P o gap = N) (hE : stE P o gap = E) (hXX : ¬ P ≤ gap * 64 + o + P / 2) :
    Calls Try.prog 108 #[.agg #[.int .i64 c, .int .i64 l, .int .i64 h, .int .i64 p, .int .i64 s], .agg #[.int .i64 P, .int .i64 o], .int .i64 gap] w fun e w' => e = .returned (.tuple #[.int .i64 N, .int .i64 E, .agg #[.int .i64 (stPer l h s P o gap), .int .i64 (stOff l h p s P o gap)]]) ∧ Below w.heap.size w w' := by
  obtain ⟨n1, n2, e1, e2, m1, m2⟩ := st_bd p1 p2 o1 o2 g1 g2
  have hpb := stPer0_bd (sp := s) f4.1 n1 p1 p2 e1 e2
  have hob := stOff0_bd (ph := p) f3.1 e1 e2
  have HV := Lib.hid (show stPer l h s P o gap = clampI (stPer0 s P (stN P o gap) (stE P o gap)) (l * 64) (h * 64) from rfl)
  have HW := Lib.hid (show stOff l h p s P o gap = clampI (stOff0 p (stE P o gap)) (-(stPer l h s P o gap)) (stPer l h s P o gap) from rfl)
  rw [HW.out, HV.out]
  rw [hN, hE] at hpb ⊢
  rw [hE] at hob
  rw [hN] at n1 n2 m1 m2
  rw [hE] at e1 e2
  clear HV HW
  have hp2 : P.tdiv 2 = P / 2 := Int.tdiv_eq_ediv_of_nonneg (by omega)
  have HQB := Lib.hid (stQ_bd p1 p2 o1 o2 g1 g2)
  have hEE := hE
  unfold stE at hEE
  rw [hN] at hEE
  unfold stN at hN
  rw [hp2] at hN HQB
  obtain ⟨X, hX⟩ : ∃ X, gap * 64 + o + P / 2 = X := ⟨_, rfl⟩
  rw [hX] at hN HQB hXX
  have hN1 : N = 1 := by
    rw [← hN]
    have h1 : X.tdiv P < 1 := by
      by_cases h0 : 0 ≤ X
      · rw [Int.tdiv_eq_ediv_of_nonneg h0, Int.ediv_eq_zero_of_lt h0 (by omega)]; omega
      · have h2 := Int.tdiv_nonneg (a := -X) (b := P) (by omega) (by omega)
        rw [Int.neg_tdiv] at h2; omega
    omega
  have hXa : ¬ P ≤ X := hXX
  subst hN1
  have hP0 : ¬ P = 0 := by omega
  rw [Int.one_mul] at hEE m1 m2
  have hwE : wrap64 (gap * 64 + o - P) = E := by unfold wrap64; omega
  have HM := Lib.hid (And.intro rfl (And.intro hX (And.intro hN (And.intro hEE hE))) : (1 : Nat) = 1 ∧ _)
  have HO := Lib.hid (show stOff0 p E = E by unfold stOff0; rw [if_pos hp0])
  have hp9 : ¬ (0 : Int) < p := by omega
  have HPP := Lib.hid (show clampI (stPer0 s P 1 E) (l * 64) (h * 64) = P by unfold stPer0; rw [if_pos hs0]; exact clampI_in r1 r2)
  have hs1 : ¬ (0 : Int) < s := by omega
  have BD2 := Lib.hid (fun w => l03Clamp_any E (-P) P w)
  rw [HO.out, HPP.out]
  obtain ⟨Q2, hQ2⟩ : ∃ y, clampI E (-P) P = y := ⟨_, rfl⟩
  rw [hQ2] at BD2 ⊢
  clear hp0 hs0 hXX hN hE hEE hQ2 hp2
  go_enter Try.func108, Try.ntmps108
  go_upto_region 7 with (fail)
  try simp only [HM.out.2.2.2.1]
  have bC : BoxF ((((w.alloc (.cells #[.int .i64 c, .int .i64 l, .int .i64 h, .int .i64 p, .int .i64 s] 59)).alloc (.cells #[.int .i64 P, .int .i64 o] 166)).alloc (.cells #[.int .i64 0, .int .i64 0] 166)).alloc (.cells #[.int .i64 P, .int .i64 E] 166)) w.heap.size #[.int .i64 c, .int .i64 l, .int .i64 h, .int .i64 p, .int .i64 s] := boxF5 (by simp [go_sem]) (by simp [go_sem]) (by simp [go_sem]) (by simp [go_sem]) (by simp [go_sem])
  have bL : BoxF ((((w.alloc (.cells #[.int .i64 c, .int .i64 l, .int .i64 h, .int .i64 p, .int .i64 s] 59)).alloc (.cells #[.int .i64 P, .int .i64 o] 166)).alloc (.cells #[.int .i64 0, .int .i64 0] 166)).alloc (.cells #[.int .i64 P, .int .i64 E] 166)) (w.heap.size + 1) #[.int .i64 P, .int .i64 o] := boxF2 (by simp [go_sem]) (by simp [go_sem])
  have bR : BoxF ((((w.alloc (.cells #[.int .i64 c, .int .i64 l, .int .i64 h, .int .i64 p, .int .i64 s] 59)).alloc (.cells #[.int .i64 P, .int .i64 o] 166)).alloc (.cells #[.int .i64 0, .int .i64 0] 166)).alloc (.cells #[.int .i64 P, .int .i64 E] 166)) (w.heap.size + 1 + 1) #[.int .i64 0, .int .i64 0] := boxF2 (by simp [go_sem]) (by simp [go_sem])
  have bS : BoxF ((((w.alloc (.cells #[.int .i64 c, .int .i64 l, .int .i64 h, .int .i64 p, .int .i64 s] 59)).alloc (.cells #[.int .i64 P, .int .i64 o] 166)).alloc (.cells #[.int .i64 0, .int .i64 0] 166)).alloc (.cells #[.int .i64 P, .int .i64 E] 166)) (w.heap.size + 1 + 1 + 1) #[.int .i64 P, .int .i64 E] := boxF2 (by simp [go_sem]) (by simp [go_sem])
  have FB := Lib.hid (show Below w.heap.size w ((((w.alloc (.cells #[.int .i64 c, .int .i64 l, .int .i64 h, .int .i64 p, .int .i64 s] 59)).alloc (.cells #[.int .i64 P, .int .i64 o] 166)).alloc (.cells #[.int .i64 0, .int .i64 0] 166)).alloc (.cells #[.int .i64 P, .int .i64 E] 166)) by go_grown)
  have hlt3 : w.heap.size + 1 + 1 + 1 < ((((w.alloc (.cells #[.int .i64 c, .int .i64 l, .int .i64 h, .int .i64 p, .int .i64 s] 59)).alloc (.cells #[.int .i64 P, .int .i64 o] 166)).alloc (.cells #[.int .i64 0, .int .i64 0] 166)).alloc (.cells #[.int .i64 P, .int .i64 E] 166)).heap.size := by simp
  generalize ((((w.alloc (.cells #[.int .i64 c, .int .i64 l, .int .i64 h, .int .i64 p, .int .i64 s] 59)).alloc (.cells #[.int .i64 P, .int .i64 o] 166)).alloc (.cells #[.int .i64 0, .int .i64 0] 166)).alloc (.cells #[.int .i64 P, .int .i64 E] 166)) = W at *
  have hlt2 : w.heap.size + 1 + 1 < W.heap.size := by omega
  obtain ⟨xC0, yC0⟩ := bC 0 _ rfl
  obtain ⟨xC1, yC1⟩ := bC 1 _ rfl
  obtain ⟨xC2, yC2⟩ := bC 2 _ rfl
  obtain ⟨xC3, yC3⟩ := bC 3 _ rfl
  obtain ⟨xC4, yC4⟩ := bC 4 _ rfl
  obtain ⟨xL0, yL0⟩ := bL 0 _ rfl
  obtain ⟨xL1, yL1⟩ := bL 1 _ rfl
  obtain ⟨xR0, yR0⟩ := bR 0 _ rfl
  obtain ⟨xR1, yR1⟩ := bR 1 _ rfl
  obtain ⟨xS0, yS0⟩ := bS 0 _ rfl
  obtain ⟨xS1, yS1⟩ := bS 1 _ rfl
  clear bC bL bR bS
  go_wp2_with fail
  refine (BD2.out _).mono ?_
  rintro e _ ⟨rfl, rfl⟩
  go_wp2
  go_region
  go_wp2
  refine bodyPost_ret (v := .tuple #[.int .i64 1, .int .i64 E, .agg #[.int .i64 P, .int .i64 Q2]]) (by simp [results, Try.results108, go_sem, xR0, yR0, xR1, yR1]) rfl ⟨rfl, ?_⟩
  exact ((((FB.out.setCell (by simp <;> omega) _).setCell (by simp <;> omega) _).setCell (by simp <;> omega) _).drew)
set_option maxHeartbeats 8000000 in
theorem l03Step_7 (c l h p s P o gap N E : Int) (w : World) (hp0 : p = 0) (hs0 : s = 0) (f1 : 2 ≤ l ∧ l ≤ 400) (f2 : 2 ≤ h ∧ h ≤ 400) (f3 : 0 ≤ p ∧ p ≤ 64) (f4 : 0 ≤ s ∧ s ≤ 64) (p1 : 128 ≤ P) (p2 : P ≤ 25600) (o1 : -25600 ≤ o) (o2 : o ≤ 25600) (g1 : 1 ≤ gap) (g2 : gap ≤ 2000000) (r1 : l * 64 ≤ P) (r2 : P ≤ h * 64)
    (hN : stN P o gap = N) (hE : stE P o gap = E) (hXX : P ≤ gap * 64 + o + P / 2) :
    Calls Try.prog 108 #[.agg #[.int .i64 c, .int .i64 l, .int .i64 h, .int .i64 p, .int .i64 s], .agg #[.int .i64 P, .int .i64 o], .int .i64 gap] w fun e w' => e = .returned (.tuple #[.int .i64 N, .int .i64 E, .agg #[.int .i64 (stPer l h s P o gap), .int .i64 (stOff l h p s P o gap)]]) ∧ Below w.heap.size w w' := by
  obtain ⟨n1, n2, e1, e2, m1, m2⟩ := st_bd p1 p2 o1 o2 g1 g2
  have hpb := stPer0_bd (sp := s) f4.1 n1 p1 p2 e1 e2
  have hob := stOff0_bd (ph := p) f3.1 e1 e2
  have HV := Lib.hid (show stPer l h s P o gap = clampI (stPer0 s P (stN P o gap) (stE P o gap)) (l * 64) (h * 64) from rfl)
  have HW := Lib.hid (show stOff l h p s P o gap = clampI (stOff0 p (stE P o gap)) (-(stPer l h s P o gap)) (stPer l h s P o gap) from rfl)
  rw [HW.out, HV.out]
  rw [hN, hE] at hpb ⊢
  rw [hE] at hob
  rw [hN] at n1 n2 m1 m2
  rw [hE] at e1 e2
  clear HV HW
  have hp2 : P.tdiv 2 = P / 2 := Int.tdiv_eq_ediv_of_nonneg (by omega)
  have HQB := Lib.hid (stQ_bd p1 p2 o1 o2 g1 g2)
  have hEE := hE
  unfold stE at hEE
  rw [hN] at hEE
  unfold stN at hN
  rw [hp2] at hN HQB
  obtain ⟨X, hX⟩ : ∃ X, gap * 64 + o + P / 2 = X := ⟨_, rfl⟩
  rw [hX] at hN HQB hXX
  have hq : X.tdiv P = N := by
    rw [← hN]
    have h1 : 1 ≤ X.tdiv P := by
      rw [Int.tdiv_eq_ediv_of_nonneg (by omega)]
      exact (Int.le_ediv_iff_mul_le (by omega)).2 (by omega)
    omega
  have hwq : wrap64 N = N := by unfold wrap64; omega
  have hwq2 : IntKind.i64.wrap N = N := IntWalk.i64_in _ (by omega)
  have hXa : P ≤ X := hXX
  have hP0 : ¬ P = 0 := by omega
  obtain ⟨M, hM⟩ : ∃ M, N * P = M := ⟨_, rfl⟩
  rw [hM] at hEE m1 m2
  have hwM : wrap64 M = M := by unfold wrap64; omega
  have hwE : wrap64 (gap * 64 + o - M) = E := by unfold wrap64; omega
  have HM := Lib.hid (And.intro hM (And.intro hX (And.intro hN (And.intro hEE hE))))
  have HO := Lib.hid (show stOff0 p E = E by unfold stOff0; rw [if_pos hp0])
  have hp9 : ¬ (0 : Int) < p := by omega
  have HPP := Lib.hid (show clampI (stPer0 s P N E) (l * 64) (h * 64) = P by unfold stPer0; rw [if_pos hs0]; exact clampI_in r1 r2)
  have hs1 : ¬ (0 : Int) < s := by omega
  have BD2 := Lib.hid (fun w => l03Clamp_any E (-P) P w)
  rw [HO.out, HPP.out]
  obtain ⟨Q2, hQ2⟩ : ∃ y, clampI E (-P) P = y := ⟨_, rfl⟩
  rw [hQ2] at BD2 ⊢
  clear hp0 hs0 hXX hN hE hEE hQ2 hp2
  go_enter Try.func108, Try.ntmps108
  go_upto_region 7 with (fail)
  try simp only [HM.out.2.2.2.1]
  have bC : BoxF ((((w.alloc (.cells #[.int .i64 c, .int .i64 l, .int .i64 h, .int .i64 p, .int .i64 s] 59)).alloc (.cells #[.int .i64 P, .int .i64 o] 166)).alloc (.cells #[.int .i64 0, .int .i64 0] 166)).alloc (.cells #[.int .i64 P, .int .i64 E] 166)) w.heap.size #[.int .i64 c, .int .i64 l, .int .i64 h, .int .i64 p, .int .i64 s] := boxF5 (by simp [go_sem]) (by simp [go_sem]) (by simp [go_sem]) (by simp [go_sem]) (by simp [go_sem])
  have bL : BoxF ((((w.alloc (.cells #[.int .i64 c, .int .i64 l, .int .i64 h, .int .i64 p, .int .i64 s] 59)).alloc (.cells #[.int .i64 P, .int .i64 o] 166)).alloc (.cells #[.int .i64 0, .int .i64 0] 166)).alloc (.cells #[.int .i64 P, .int .i64 E] 166)) (w.heap.size + 1) #[.int .i64 P, .int .i64 o] := boxF2 (by simp [go_sem]) (by simp [go_sem])
  have bR : BoxF ((((w.alloc (.cells #[.int .i64 c, .int .i64 l, .int .i64 h, .int .i64 p, .int .i64 s] 59)).alloc (.cells #[.int .i64 P, .int .i64 o] 166)).alloc (.cells #[.int .i64 0, .int .i64 0] 166)).alloc (.cells #[.int .i64 P, .int .i64 E] 166)) (w.heap.size + 1 + 1) #[.int .i64 0, .int .i64 0] := boxF2 (by simp [go_sem]) (by simp [go_sem])
  have bS : BoxF ((((w.alloc (.cells #[.int .i64 c, .int .i64 l, .int .i64 h, .int .i64 p, .int .i64 s] 59)).alloc (.cells #[.int .i64 P, .int .i64 o] 166)).alloc (.cells #[.int .i64 0, .int .i64 0] 166)).alloc (.cells #[.int .i64 P, .int .i64 E] 166)) (w.heap.size + 1 + 1 + 1) #[.int .i64 P, .int .i64 E] := boxF2 (by simp [go_sem]) (by simp [go_sem])
  have FB := Lib.hid (show Below w.heap.size w ((((w.alloc (.cells #[.int .i64 c, .int .i64 l, .int .i64 h, .int .i64 p, .int .i64 s] 59)).alloc (.cells #[.int .i64 P, .int .i64 o] 166)).alloc (.cells #[.int .i64 0, .int .i64 0] 166)).alloc (.cells #[.int .i64 P, .int .i64 E] 166)) by go_grown)
  have hlt3 : w.heap.size + 1 + 1 + 1 < ((((w.alloc (.cells #[.int .i64 c, .int .i64 l, .int .i64 h, .int .i64 p, .int .i64 s] 59)).alloc (.cells #[.int .i64 P, .int .i64 o] 166)).alloc (.cells #[.int .i64 0, .int .i64 0] 166)).alloc (.cells #[.int .i64 P, .int .i64 E] 166)).heap.size := by simp
  generalize ((((w.alloc (.cells #[.int .i64 c, .int .i64 l, .int .i64 h, .int .i64 p, .int .i64 s] 59)).alloc (.cells #[.int .i64 P, .int .i64 o] 166)).alloc (.cells #[.int .i64 0, .int .i64 0] 166)).alloc (.cells #[.int .i64 P, .int .i64 E] 166)) = W at *
  have hlt2 : w.heap.size + 1 + 1 < W.heap.size := by omega
  obtain ⟨xC0, yC0⟩ := bC 0 _ rfl
  obtain ⟨xC1, yC1⟩ := bC 1 _ rfl
  obtain ⟨xC2, yC2⟩ := bC 2 _ rfl
  obtain ⟨xC3, yC3⟩ := bC 3 _ rfl
  obtain ⟨xC4, yC4⟩ := bC 4 _ rfl
  obtain ⟨xL0, yL0⟩ := bL 0 _ rfl
  obtain ⟨xL1, yL1⟩ := bL 1 _ rfl
  obtain ⟨xR0, yR0⟩ := bR 0 _ rfl
  obtain ⟨xR1, yR1⟩ := bR 1 _ rfl
  obtain ⟨xS0, yS0⟩ := bS 0 _ rfl
  obtain ⟨xS1, yS1⟩ := bS 1 _ rfl
  clear bC bL bR bS
  go_wp2_with fail
  refine (BD2.out _).mono ?_
  rintro e _ ⟨rfl, rfl⟩
  go_wp2
  go_region
  go_wp2
  refine bodyPost_ret (v := .tuple #[.int .i64 N, .int .i64 E, .agg #[.int .i64 P, .int .i64 Q2]]) (by simp [results, Try.results108, go_sem, xR0, yR0, xR1, yR1]) rfl ⟨rfl, ?_⟩
  exact ((((FB.out.setCell (by simp <;> omega) _).setCell (by simp <;> omega) _).setCell (by simp <;> omega) _).drew)
theorem l03Step_any (c l h p s P o gap : Int) (w : World) (f1 : 2 ≤ l ∧ l ≤ 400) (f2 : 2 ≤ h ∧ h ≤ 400) (f3 : 0 ≤ p ∧ p ≤ 64) (f4 : 0 ≤ s ∧ s ≤ 64) (p1 : 128 ≤ P) (p2 : P ≤ 25600) (o1 : -25600 ≤ o) (o2 : o ≤ 25600) (g1 : 1 ≤ gap) (g2 : gap ≤ 2000000) (r1 : l * 64 ≤ P) (r2 : P ≤ h * 64) :
    Calls Try.prog 108 #[.agg #[.int .i64 c, .int .i64 l, .int .i64 h, .int .i64 p, .int .i64 s], .agg #[.int .i64 P, .int .i64 o], .int .i64 gap] w fun e w' => e = .returned (.tuple #[.int .i64 (stN P o gap), .int .i64 (stE P o gap), .agg #[.int .i64 (stPer l h s P o gap), .int .i64 (stOff l h p s P o gap)]]) ∧ Below w.heap.size w w' := by
  by_cases hp : p = 0 <;> by_cases hs : s = 0 <;> by_cases hx : P ≤ gap * 64 + o + P / 2
  · exact l03Step_7 c l h p s P o gap _ _ w hp hs f1 f2 f3 f4 p1 p2 o1 o2 g1 g2 r1 r2 rfl rfl hx
  · exact l03Step_6 c l h p s P o gap _ _ w hp hs f1 f2 f3 f4 p1 p2 o1 o2 g1 g2 r1 r2 rfl rfl hx
  · exact l03Step_5 c l h p s P o gap _ _ w hp hs f1 f2 f3 f4 p1 p2 o1 o2 g1 g2 r1 r2 rfl rfl hx
  · exact l03Step_4 c l h p s P o gap _ _ w hp hs f1 f2 f3 f4 p1 p2 o1 o2 g1 g2 r1 r2 rfl rfl hx
  · exact l03Step_3 c l h p s P o gap _ _ w hp hs f1 f2 f3 f4 p1 p2 o1 o2 g1 g2 r1 r2 rfl rfl hx
  · exact l03Step_2 c l h p s P o gap _ _ w hp hs f1 f2 f3 f4 p1 p2 o1 o2 g1 g2 r1 r2 rfl rfl hx
  · exact l03Step_1 c l h p s P o gap _ _ w hp hs f1 f2 f3 f4 p1 p2 o1 o2 g1 g2 r1 r2 rfl rfl hx
  · exact l03Step_0 c l h p s P o gap _ _ w hp hs f1 f2 f3 f4 p1 p2 o1 o2 g1 g2 r1 r2 rfl rfl hx
end Go.Proofs.Ytdoledckkbcihaa
