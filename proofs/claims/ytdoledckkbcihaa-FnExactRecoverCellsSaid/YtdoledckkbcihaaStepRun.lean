/- (impl.Clock).step -/
import Derived.Test.YtdoledckkbcihaaStepIm
import Derived.Test.YtdoledckkbcihaaMadeAt
import Derived.Deep.DeepCutAuto
namespace Go.Proofs.Ytdoledckkbcihaa
open Go.RowKit
set_option linter.unusedVariables false
set_option linter.unusedSimpArgs false
set_option maxRecDepth 20000
/-- One struct of two cells in a box of the region's own. -/
def OneIn2 (a b : Value) (W wx : World) (v : Value) : Prop := ∃ p, v = .pointer (some ⟨p, 0, none⟩) ∧ W.heap.size ≤ p ∧ p < wx.heap.size ∧ BoxF wx p #[a, b]
theorem OneIn2.mk {W w : World} {p : Nat} {z0 z1 a b : Value} {Ty : TypeId} (hp : W.heap.size ≤ p) (hm : MadeAt w p (.cells #[z0, z1] Ty)) :
    OneIn2 a b W ((w.setCell ⟨p, 0, none⟩ a).setCell ⟨p, 1, none⟩ b) (.pointer (some ⟨p, 0, none⟩)) := by
  obtain ⟨c0, f0⟩ := hm.at 0 rfl
  obtain ⟨c1, f1⟩ := hm.at 1 rfl
  have := hm.lt
  exact ⟨p, rfl, hp, by simpa [World.setCell] using this, boxF2 (by simp [go_sem, c0, f0]) (by simp [go_sem, c1, f1])⟩
/-- The bounds of the quotient of a step. -/
theorem stQ_bd {P o gap : Int} (p1 : 128 ≤ P) (p2 : P ≤ 25600) (o1 : -25600 ≤ o) (o2 : o ≤ 25600) (g1 : 1 ≤ gap) (g2 : gap ≤ 2000000) :
    -3000000 ≤ (gap * 64 + o + P.tdiv 2).tdiv P ∧ (gap * 64 + o + P.tdiv 2).tdiv P ≤ 3000000 := by
  have h := (st_bd p1 p2 o1 o2 g1 g2).2.1
  unfold stN at h
  refine ⟨?_, by omega⟩
  have hp2 : P.tdiv 2 = P / 2 := Int.tdiv_eq_ediv_of_nonneg (by omega)
  rw [hp2]
  by_cases hx : 0 ≤ gap * 64 + o + P / 2
  · have := Int.tdiv_nonneg hx (show 0 ≤ P by omega)
    omega
  · have := (tdiv_bd (show 1 ≤ P by omega) (e := gap * 64 + o + P / 2) (by omega) (by omega)).1
    omega
set_option maxHeartbeats 8000000 in
theorem step_0 (c l h p s P o gap N E Q : Int) (w : World) (hp0 : p = 0) (hs0 : s = 0) (f1 : 2 ≤ l ∧ l ≤ 400) (f2 : 2 ≤ h ∧ h ≤ 400) (f3 : 0 ≤ p ∧ p ≤ 64) (f4 : 0 ≤ s ∧ s ≤ 64) (p1 : 128 ≤ P) (p2 : P ≤ 25600) (o1 : -25600 ≤ o) (o2 : o ≤ 25600) (g1 : 1 ≤ gap) (g2 : gap ≤ 2000000)
    (hN : stN P o gap = N) (hE : stE P o gap = E) :
    Calls Try.prog 127 #[.agg #[.int .i64 c, .int .i64 l, .int .i64 h, .int .i64 p, .int .i64 s], .agg #[.int .i64 P, .int .i64 o], .int .i64 gap] w fun e w' => e = .returned (.tuple #[.agg #[.int .i64 N, .int .i64 E], .agg #[.int .i64 (stPer l h s P o gap), .int .i64 (stOff l h p s P o gap)]]) ∧ Below w.heap.size w w' := by
  obtain ⟨n1, n2, e1, e2, m1, m2⟩ := st_bd p1 p2 o1 o2 g1 g2
  have PH := Lib.hid (fun w => phase_any c l h p s w)
  have hpb := stPer0_bd (sp := s) f4.1 n1 p1 p2 e1 e2
  have hob := stOff0_bd (ph := p) f3.1 e1 e2
  have BD := Lib.hid (fun w => bounded_any c l h p s (stPer0 s P (stN P o gap) (stE P o gap)) (stOff0 p (stE P o gap)) w f1.1 f1.2 f2.1 f2.2)
  have HV := Lib.hid (show stPer l h s P o gap = clampI (stPer0 s P (stN P o gap) (stE P o gap)) (l * 64) (h * 64) from rfl)
  have HW := Lib.hid (show stOff l h p s P o gap = clampI (stOff0 p (stE P o gap)) (-(stPer l h s P o gap)) (stPer l h s P o gap) from rfl)
  rw [HW.out, HV.out]
  rw [hN, hE] at BD hpb ⊢
  rw [hE] at hob
  rw [hN] at n1 n2 m1 m2
  rw [hE] at e1 e2
  clear HV HW
  have hp2 : P.tdiv 2 = P / 2 := Int.tdiv_eq_ediv_of_nonneg (by omega)
  have HQB := Lib.hid (stQ_bd p1 p2 o1 o2 g1 g2)
  have hEE := hE
  unfold stE at hEE
  rw [hN] at hEE
  unfold stN at hN
  rw [hp2] at hN HQB
  obtain ⟨X, hX⟩ : ∃ X, gap * 64 + o + P / 2 = X := ⟨_, rfl⟩
  rw [hX] at hN HQB
  obtain ⟨q, hq⟩ : ∃ q, X.tdiv P = q := ⟨_, rfl⟩
  rw [hq] at hN HQB
  have hq1 := HQB.out
  have hNif : (if q < 1 then 1 else q) = N := by rw [← hN]; split <;> omega
  obtain ⟨M, hM⟩ : ∃ M, N * P = M := ⟨_, rfl⟩
  rw [hM] at hEE m1 m2
  have hwM : wrap64 M = M := by unfold wrap64; omega
  have hwE : wrap64 (gap * 64 + o - M) = E := by unfold wrap64; omega
  have hP0 : ¬ P = 0 := by omega
  have hwq : wrap64 q = q := by unfold wrap64; omega
  have hwq2 : IntKind.i64.wrap q = q := IntWalk.i64_in _ (by omega)
  have HX := Lib.hid (And.intro hX (And.intro hq (And.intro hN hE)))
  have HNN := Lib.hid (And.intro hNif (And.intro hM (And.intro hwM hwE)))
  clear hN hE hEE hNif hM hwM hwE
  have hpf : phaseF c l h p s = .func (.func 141) #[] #[] := by unfold phaseF; rw [if_pos hp0]
  rw [hpf] at PH
  have KA := Lib.hid (fun w => (keepAll_any E w).mono (fun e w' ⟨h1, h2⟩ => (show e = Ending.returned (.int .i64 E) ∧ Below w.heap.size w w' from ⟨h1, h2 ▸ Below.refl _ _⟩)))
  have HO := Lib.hid (show stOff0 p E = E by unfold stOff0; rw [if_pos hp0])
  clear hpf
  have HPP := Lib.hid (show stPer0 s P N E = P by unfold stPer0; rw [if_pos hs0])
  have hs1 : ¬ (0 : Int) < s := by omega
  clear hp0 hs0
  rw [HO.out, HPP.out] at BD ⊢
  go_enter Try.func127, Try.ntmps127
  go_upto_region 4 with (fail)
  simp only [HNN.out.1, HNN.out.2.1, HNN.out.2.2.1, HNN.out.2.2.2]
  have bC : BoxF ((((w.alloc (.cells #[.int .i64 c, .int .i64 l, .int .i64 h, .int .i64 p, .int .i64 s] 59)).alloc (.cells #[.int .i64 P, .int .i64 o] 166)).alloc (.cells #[.int .i64 0, .int .i64 0] 127)).alloc (.cells #[.int .i64 0, .int .i64 0] 166)) w.heap.size #[.int .i64 c, .int .i64 l, .int .i64 h, .int .i64 p, .int .i64 s] := boxF5 (by simp [go_sem]) (by simp [go_sem]) (by simp [go_sem]) (by simp [go_sem]) (by simp [go_sem])
  have bL : BoxF ((((w.alloc (.cells #[.int .i64 c, .int .i64 l, .int .i64 h, .int .i64 p, .int .i64 s] 59)).alloc (.cells #[.int .i64 P, .int .i64 o] 166)).alloc (.cells #[.int .i64 0, .int .i64 0] 127)).alloc (.cells #[.int .i64 0, .int .i64 0] 166)) (w.heap.size + 1) #[.int .i64 P, .int .i64 o] := boxF2 (by simp [go_sem]) (by simp [go_sem])
  have bR : BoxF ((((w.alloc (.cells #[.int .i64 c, .int .i64 l, .int .i64 h, .int .i64 p, .int .i64 s] 59)).alloc (.cells #[.int .i64 P, .int .i64 o] 166)).alloc (.cells #[.int .i64 0, .int .i64 0] 127)).alloc (.cells #[.int .i64 0, .int .i64 0] 166)) (w.heap.size + 1 + 1) #[.int .i64 0, .int .i64 0] := boxF2 (by simp [go_sem]) (by simp [go_sem])
  have bS : BoxF ((((w.alloc (.cells #[.int .i64 c, .int .i64 l, .int .i64 h, .int .i64 p, .int .i64 s] 59)).alloc (.cells #[.int .i64 P, .int .i64 o] 166)).alloc (.cells #[.int .i64 0, .int .i64 0] 127)).alloc (.cells #[.int .i64 0, .int .i64 0] 166)) (w.heap.size + 1 + 1 + 1) #[.int .i64 0, .int .i64 0] := boxF2 (by simp [go_sem]) (by simp [go_sem])
  have FB := Lib.hid (show Below w.heap.size w ((((w.alloc (.cells #[.int .i64 c, .int .i64 l, .int .i64 h, .int .i64 p, .int .i64 s] 59)).alloc (.cells #[.int .i64 P, .int .i64 o] 166)).alloc (.cells #[.int .i64 0, .int .i64 0] 127)).alloc (.cells #[.int .i64 0, .int .i64 0] 166)) by go_grown)
  have hlt3 : w.heap.size + 1 + 1 + 1 < ((((w.alloc (.cells #[.int .i64 c, .int .i64 l, .int .i64 h, .int .i64 p, .int .i64 s] 59)).alloc (.cells #[.int .i64 P, .int .i64 o] 166)).alloc (.cells #[.int .i64 0, .int .i64 0] 127)).alloc (.cells #[.int .i64 0, .int .i64 0] 166)).heap.size := by simp
  generalize ((((w.alloc (.cells #[.int .i64 c, .int .i64 l, .int .i64 h, .int .i64 p, .int .i64 s] 59)).alloc (.cells #[.int .i64 P, .int .i64 o] 166)).alloc (.cells #[.int .i64 0, .int .i64 0] 127)).alloc (.cells #[.int .i64 0, .int .i64 0] 166)) = W at *
  have hlt2 : w.heap.size + 1 + 1 < W.heap.size := by omega
  have hlt1 : w.heap.size + 1 < W.heap.size := by omega
  have hlt0 : w.heap.size < W.heap.size := by omega
  go_cut [11] (fun v11 wx => Hid (OneIn2 (.int .i64 P) (.int .i64 E) W wx v11 ∧ Below W.heap.size W wx))
  case first =>
    have BC := Lib.hid (fun w' (hb : Below W.heap.size W w') => (bC.below hb hlt0).box)
    have BL := Lib.hid (fun w' (hb : Below W.heap.size W w') => (bL.below hb hlt1).box)
    have KS := Lib.hid (fun w' (hb : Below W.heap.size W w') => (show w'.cell? ⟨w.heap.size, 0, none⟩ = some (.int .i64 c) ∧ w'.cell? ⟨w.heap.size, 1, none⟩ = some (.int .i64 l) ∧ w'.cell? ⟨w.heap.size, 2, none⟩ = some (.int .i64 h) ∧ w'.cell? ⟨w.heap.size, 3, none⟩ = some (.int .i64 p) ∧ w'.cell? ⟨w.heap.size, 4, none⟩ = some (.int .i64 s) ∧ w'.cell? ⟨w.heap.size + 1, 0, none⟩ = some (.int .i64 P) ∧ w'.cell? ⟨w.heap.size + 1, 1, none⟩ = some (.int .i64 o) from ⟨BC.out w' hb 0 _ rfl, BC.out w' hb 1 _ rfl, BC.out w' hb 2 _ rfl, BC.out w' hb 3 _ rfl, BC.out w' hb 4 _ rfl, BL.out w' hb 0 _ rfl, BL.out w' hb 1 _ rfl⟩))
    have HC := Lib.hid (show Below W.heap.size W W.drew from (Below.refl _ _).drew)
    clear bC bL bR bS
    refine wp_region_held_drew (S := (fun w' => w'.cell? ⟨w.heap.size, 0, none⟩ = some (.int .i64 c) ∧ w'.cell? ⟨w.heap.size, 1, none⟩ = some (.int .i64 l) ∧ w'.cell? ⟨w.heap.size, 2, none⟩ = some (.int .i64 h) ∧ w'.cell? ⟨w.heap.size, 3, none⟩ = some (.int .i64 p) ∧ w'.cell? ⟨w.heap.size, 4, none⟩ = some (.int .i64 s) ∧ w'.cell? ⟨w.heap.size + 1, 0, none⟩ = some (.int .i64 P) ∧ w'.cell? ⟨w.heap.size + 1, 1, none⟩ = some (.int .i64 o))) (by kernel_rfl) (KS.out _ HC.out) (fun hHeld => ?_)
    refine wpAnyH_take (i := 0) (oi := { dst := some 32, op := Op.fieldAddr 166 (Operand.tmp 4) 0, type := 0, pos := "l03_clock.go:80", after := #[], guard := none }) (v := ?_) rfl (by kernel_rfl) (by kernel_rfl) (by kernel_rfl) (fun _ _ _ h => h) (Or.inl ⟨by rfl, ?hy⟩) hHeld ?_
    case hy => (intro w' hSw; (try dsimp only at hSw); go_simp; try with_reducible rfl)
    simp only [Act.put, List.setIfInBounds_toArray, List.set_cons_zero, List.set_cons_succ]
    refine wpAnyH_take (i := 1) (oi := { dst := some 33, op := Op.load 2 (Operand.tmp 32), type := 2, pos := "l03_clock.go:80", after := #[{ on := 0, ground := Ground.data }], guard := none }) (v := ?_) rfl (by kernel_rfl) (by kernel_rfl) (by kernel_rfl) (fun _ _ _ h => h) (Or.inl ⟨by rfl, ?hy⟩) hHeld ?_
    case hy => (intro w' hSw; (try dsimp only at hSw); go_simp; try with_reducible rfl)
    simp only [Act.put, List.setIfInBounds_toArray, List.set_cons_zero, List.set_cons_succ]
    refine wpAnyH_take (i := 2) (oi := { dst := some 34, op := Op.load 59 (Operand.tmp 3), type := 59, pos := "l03_clock.go:80", after := #[], guard := none }) (v := ?_) rfl (by kernel_rfl) (by kernel_rfl) (by kernel_rfl) (fun _ _ _ h => h) (Or.inl ⟨by rfl, ?hy⟩) hHeld ?_
    case hy => (intro w' hSw; (try dsimp only at hSw); go_simp; try with_reducible rfl)
    simp only [Act.put, List.setIfInBounds_toArray, List.set_cons_zero, List.set_cons_succ]
    refine wpAnyH_take (i := 4) (oi := { dst := some 36, op := Op.move (Operand.tmp 10), type := 2, pos := "l03_clock.go:80", after := #[], guard := none }) (v := ?_) rfl (by kernel_rfl) (by kernel_rfl) (by kernel_rfl) (fun _ _ _ h => h) (Or.inl ⟨by rfl, ?hy⟩) hHeld ?_
    case hy => (intro w' hSw; (try dsimp only at hSw); go_simp; try with_reducible rfl)
    simp only [Act.put, List.setIfInBounds_toArray, List.set_cons_zero, List.set_cons_succ]
    refine wpAnyH_ready (rs := [3, 7]) (by kernel_rfl) (by simp) ?_
    refine AllReadyH.cons (o := { dst := some 35, op := Op.call { callee := Callee.value (Operand.func 138), args := #[Operand.tmp 34], argTypes := #[59] }, type := 82, pos := "l03_clock.go:80", after := #[{ on := 2, ground := Ground.data }], guard := none }) rfl (fun K hK => ?_) (AllReadyH.cons (o := { dst := some 11, op := Op.alloc 166, type := 0, pos := "l03_clock.go:80", after := #[], guard := none }) rfl (fun K hK => ?_) AllReadyH.nil)
    · go_simp
      go_at_call 138; refine (PH.out _).mono ?_; rintro e w2 ⟨rfl, hb2⟩; replace HC := Lib.hid (HC.out.trans (hb2.mono HC.out.size)); (try (replace EA := Lib.hid (EA.out.below hb2)))
      go_wp2_with fail
      refine hK.out _ _ (KS.out _ HC.out) (fun hHeld => ?_)
      clear hK K
      try simp only [Act.put, List.setIfInBounds_toArray, List.set_cons_zero, List.set_cons_succ]
      refine wpAnyH_ready (rs := [5, 7]) (by kernel_rfl) (by simp) ?_
      refine AllReadyH.cons (o := { dst := some 37, op := Op.call { callee := Callee.value (Operand.tmp 35), args := #[Operand.tmp 36], argTypes := #[2] }, type := 2, pos := "l03_clock.go:80", after := #[{ on := 3, ground := Ground.data }, { on := 4, ground := Ground.data }, { on := 3, ground := Ground.chain }], guard := none }) rfl (fun K hK => ?_) (AllReadyH.cons (o := { dst := some 11, op := Op.alloc 166, type := 0, pos := "l03_clock.go:80", after := #[], guard := none }) rfl (fun K hK => ?_) AllReadyH.nil)
      · go_simp
        go_at_call 141; refine (KA.out _).mono ?_; rintro e w3 ⟨rfl, hb3⟩; replace HC := Lib.hid (HC.out.trans (hb3.mono HC.out.size)); (try (replace EA := Lib.hid (EA.out.below hb3)))
        go_wp2_with fail
        refine hK.out _ _ (KS.out _ HC.out) (fun hHeld => ?_)
        clear hK K
        try simp only [Act.put, List.setIfInBounds_toArray, List.set_cons_zero, List.set_cons_succ]
        refine wpAnyH_take (i := 6) (oi := { dst := some 38, op := Op.build 166 #[(0, Operand.tmp 33), (1, Operand.tmp 37)], type := 166, pos := "l03_clock.go:80", after := #[{ on := 1, ground := Ground.data }, { on := 5, ground := Ground.data }], guard := none }) (v := ?_) rfl (by kernel_rfl) (by kernel_rfl) (by kernel_rfl) (fun _ _ _ h => h) (Or.inl ⟨by rfl, ?hy⟩) hHeld ?_
        case hy => (intro w' hSw; (try dsimp only at hSw); go_simp; try with_reducible rfl)
        simp only [Act.put, List.setIfInBounds_toArray, List.set_cons_zero, List.set_cons_succ]
        refine wpAnyH_ready (rs := [7]) (by kernel_rfl) (by simp) ?_
        refine AllReadyH.cons (o := { dst := some 11, op := Op.alloc 166, type := 0, pos := "l03_clock.go:80", after := #[], guard := none }) rfl (fun K hK => ?_) AllReadyH.nil
        have EA := Lib.hid ((fun (V : World) (h : Below W.heap.size W V) => MadeAt.new V (.cells #[.int .i64 0, .int .i64 0] 166)) _ HC.out)
        have PA := Lib.hid HC.out.size
        replace HC := Lib.hid (HC.out.alloc HC.out.size (.cells #[.int .i64 0, .int .i64 0] 166))
        go_simp
        refine hK.out _ _ (KS.out _ HC.out) (fun hHeld => ?_)
        clear hK K
        try simp only [Act.put, List.setIfInBounds_toArray, List.set_cons_zero, List.set_cons_succ]
        generalize hVA : w3.alloc (.cells #[.int .i64 0, .int .i64 0] 166) = VA at *
        clear hVA
        refine wpAnyH_ready (rs := [8]) (by kernel_rfl) (by simp) ?_
        refine AllReadyH.cons (o := { dst := none, op := Op.store 166 (Operand.tmp 11) (Operand.tmp 38), type := 0, pos := "l03_clock.go:80", after := #[{ on := 7, ground := Ground.data }, { on := 6, ground := Ground.data }, { on := 5, ground := Ground.chain }, { on := 0, ground := Ground.phase }, { on := 1, ground := Ground.phase }, { on := 2, ground := Ground.phase }, { on := 3, ground := Ground.phase }, { on := 4, ground := Ground.phase }, { on := 5, ground := Ground.phase }, { on := 6, ground := Ground.phase }, { on := 7, ground := Ground.phase }], guard := none }) rfl (fun K hK => ?_) AllReadyH.nil
        obtain ⟨qa0, qb0⟩ := EA.out.at 0 rfl
        obtain ⟨qa1, qb1⟩ := EA.out.at 1 rfl
        go_simp
        refine hK.out _ _ (KS.out _ ((HC.out.setCell PA.out _).setCell PA.out _)) (fun hHeld => ?_)
        clear hK K
        try simp only [Act.put, List.setIfInBounds_toArray, List.set_cons_zero, List.set_cons_succ]
        refine wpAnyH_done (by kernel_rfl) ?_ _
        go_wp2_with fail
        go_meet
        case rel => exact Lib.hid ⟨OneIn2.mk PA.out EA.out, (HC.out.setCell PA.out _).setCell PA.out _⟩
      · have EA := Lib.hid ((fun (V : World) (h : Below W.heap.size W V) => MadeAt.new V (.cells #[.int .i64 0, .int .i64 0] 166)) _ HC.out)
        have PA := Lib.hid HC.out.size
        replace HC := Lib.hid (HC.out.alloc HC.out.size (.cells #[.int .i64 0, .int .i64 0] 166))
        go_simp
        refine hK.out _ _ (KS.out _ HC.out) (fun hHeld => ?_)
        clear hK K
        try simp only [Act.put, List.setIfInBounds_toArray, List.set_cons_zero, List.set_cons_succ]
        generalize hVA : w2.alloc (.cells #[.int .i64 0, .int .i64 0] 166) = VA at *
        clear hVA
        refine wpAnyH_ready (rs := [5]) (by kernel_rfl) (by simp) ?_
        refine AllReadyH.cons (o := { dst := some 37, op := Op.call { callee := Callee.value (Operand.tmp 35), args := #[Operand.tmp 36], argTypes := #[2] }, type := 2, pos := "l03_clock.go:80", after := #[{ on := 3, ground := Ground.data }, { on := 4, ground := Ground.data }, { on := 3, ground := Ground.chain }], guard := none }) rfl (fun K hK => ?_) AllReadyH.nil
        go_simp
        go_at_call 141; refine (KA.out _).mono ?_; rintro e w3 ⟨rfl, hb3⟩; replace HC := Lib.hid (HC.out.trans (hb3.mono HC.out.size)); (try (replace EA := Lib.hid (EA.out.below hb3)))
        go_wp2_with fail
        refine hK.out _ _ (KS.out _ HC.out) (fun hHeld => ?_)
        clear hK K
        try simp only [Act.put, List.setIfInBounds_toArray, List.set_cons_zero, List.set_cons_succ]
        refine wpAnyH_take (i := 6) (oi := { dst := some 38, op := Op.build 166 #[(0, Operand.tmp 33), (1, Operand.tmp 37)], type := 166, pos := "l03_clock.go:80", after := #[{ on := 1, ground := Ground.data }, { on := 5, ground := Ground.data }], guard := none }) (v := ?_) rfl (by kernel_rfl) (by kernel_rfl) (by kernel_rfl) (fun _ _ _ h => h) (Or.inl ⟨by rfl, ?hy⟩) hHeld ?_
        case hy => (intro w' hSw; (try dsimp only at hSw); go_simp; try with_reducible rfl)
        simp only [Act.put, List.setIfInBounds_toArray, List.set_cons_zero, List.set_cons_succ]
        refine wpAnyH_ready (rs := [8]) (by kernel_rfl) (by simp) ?_
        refine AllReadyH.cons (o := { dst := none, op := Op.store 166 (Operand.tmp 11) (Operand.tmp 38), type := 0, pos := "l03_clock.go:80", after := #[{ on := 7, ground := Ground.data }, { on := 6, ground := Ground.data }, { on := 5, ground := Ground.chain }, { on := 0, ground := Ground.phase }, { on := 1, ground := Ground.phase }, { on := 2, ground := Ground.phase }, { on := 3, ground := Ground.phase }, { on := 4, ground := Ground.phase }, { on := 5, ground := Ground.phase }, { on := 6, ground := Ground.phase }, { on := 7, ground := Ground.phase }], guard := none }) rfl (fun K hK => ?_) AllReadyH.nil
        obtain ⟨qa0, qb0⟩ := EA.out.at 0 rfl
        obtain ⟨qa1, qb1⟩ := EA.out.at 1 rfl
        go_simp
        refine hK.out _ _ (KS.out _ ((HC.out.setCell PA.out _).setCell PA.out _)) (fun hHeld => ?_)
        clear hK K
        try simp only [Act.put, List.setIfInBounds_toArray, List.set_cons_zero, List.set_cons_succ]
        refine wpAnyH_done (by kernel_rfl) ?_ _
        go_wp2_with fail
        go_meet
        case rel => exact Lib.hid ⟨OneIn2.mk PA.out EA.out, (HC.out.setCell PA.out _).setCell PA.out _⟩
    · have EA := Lib.hid (show MadeAt (W.alloc (.cells #[.int .i64 0, .int .i64 0] 166)).drew W.heap.size (.cells #[.int .i64 0, .int .i64 0] 166) from MadeAt.new W (.cells #[.int .i64 0, .int .i64 0] 166))
      have PA := Lib.hid (Nat.le_refl W.heap.size)
      replace HC := Lib.hid (show Below W.heap.size W (W.alloc (.cells #[.int .i64 0, .int .i64 0] 166)).drew from ((Below.refl _ _).alloc (Nat.le_refl _) (.cells #[.int .i64 0, .int .i64 0] 166)).drew)
      go_simp
      refine hK.out _ _ (KS.out _ HC.out) (fun hHeld => ?_)
      clear hK K
      try simp only [Act.put, List.setIfInBounds_toArray, List.set_cons_zero, List.set_cons_succ]
      generalize hVA : (W.alloc (.cells #[.int .i64 0, .int .i64 0] 166)).drew = VA at *
      clear hVA
      refine wpAnyH_ready (rs := [3]) (by kernel_rfl) (by simp) ?_
      refine AllReadyH.cons (o := { dst := some 35, op := Op.call { callee := Callee.value (Operand.func 138), args := #[Operand.tmp 34], argTypes := #[59] }, type := 82, pos := "l03_clock.go:80", after := #[{ on := 2, ground := Ground.data }], guard := none }) rfl (fun K hK => ?_) AllReadyH.nil
      go_simp
      go_at_call 138; refine (PH.out _).mono ?_; rintro e w2 ⟨rfl, hb2⟩; replace HC := Lib.hid (HC.out.trans (hb2.mono HC.out.size)); (try (replace EA := Lib.hid (EA.out.below hb2)))
      go_wp2_with fail
      refine hK.out _ _ (KS.out _ HC.out) (fun hHeld => ?_)
      clear hK K
      try simp only [Act.put, List.setIfInBounds_toArray, List.set_cons_zero, List.set_cons_succ]
      refine wpAnyH_ready (rs := [5]) (by kernel_rfl) (by simp) ?_
      refine AllReadyH.cons (o := { dst := some 37, op := Op.call { callee := Callee.value (Operand.tmp 35), args := #[Operand.tmp 36], argTypes := #[2] }, type := 2, pos := "l03_clock.go:80", after := #[{ on := 3, ground := Ground.data }, { on := 4, ground := Ground.data }, { on := 3, ground := Ground.chain }], guard := none }) rfl (fun K hK => ?_) AllReadyH.nil
      go_simp
      go_at_call 141; refine (KA.out _).mono ?_; rintro e w3 ⟨rfl, hb3⟩; replace HC := Lib.hid (HC.out.trans (hb3.mono HC.out.size)); (try (replace EA := Lib.hid (EA.out.below hb3)))
      go_wp2_with fail
      refine hK.out _ _ (KS.out _ HC.out) (fun hHeld => ?_)
      clear hK K
      try simp only [Act.put, List.setIfInBounds_toArray, List.set_cons_zero, List.set_cons_succ]
      refine wpAnyH_take (i := 6) (oi := { dst := some 38, op := Op.build 166 #[(0, Operand.tmp 33), (1, Operand.tmp 37)], type := 166, pos := "l03_clock.go:80", after := #[{ on := 1, ground := Ground.data }, { on := 5, ground := Ground.data }], guard := none }) (v := ?_) rfl (by kernel_rfl) (by kernel_rfl) (by kernel_rfl) (fun _ _ _ h => h) (Or.inl ⟨by rfl, ?hy⟩) hHeld ?_
      case hy => (intro w' hSw; (try dsimp only at hSw); go_simp; try with_reducible rfl)
      simp only [Act.put, List.setIfInBounds_toArray, List.set_cons_zero, List.set_cons_succ]
      refine wpAnyH_ready (rs := [8]) (by kernel_rfl) (by simp) ?_
      refine AllReadyH.cons (o := { dst := none, op := Op.store 166 (Operand.tmp 11) (Operand.tmp 38), type := 0, pos := "l03_clock.go:80", after := #[{ on := 7, ground := Ground.data }, { on := 6, ground := Ground.data }, { on := 5, ground := Ground.chain }, { on := 0, ground := Ground.phase }, { on := 1, ground := Ground.phase }, { on := 2, ground := Ground.phase }, { on := 3, ground := Ground.phase }, { on := 4, ground := Ground.phase }, { on := 5, ground := Ground.phase }, { on := 6, ground := Ground.phase }, { on := 7, ground := Ground.phase }], guard := none }) rfl (fun K hK => ?_) AllReadyH.nil
      obtain ⟨qa0, qb0⟩ := EA.out.at 0 rfl
      obtain ⟨qa1, qb1⟩ := EA.out.at 1 rfl
      go_simp
      refine hK.out _ _ (KS.out _ ((HC.out.setCell PA.out _).setCell PA.out _)) (fun hHeld => ?_)
      clear hK K
      try simp only [Act.put, List.setIfInBounds_toArray, List.set_cons_zero, List.set_cons_succ]
      refine wpAnyH_done (by kernel_rfl) ?_ _
      go_wp2_with fail
      go_meet
      case rel => exact Lib.hid ⟨OneIn2.mk PA.out EA.out, (HC.out.setCell PA.out _).setCell PA.out _⟩
  obtain ⟨⟨b11, rfl, hb11, hbl11, bX⟩, hbc⟩ := hcut.out
  clear hcut PH KA
  have BR := Lib.hid (And.intro bR bS)
  have BC0 := Lib.hid bC
  have HBC := Lib.hid hbc
  have FB1 := Lib.hid FB.out
  have bC2 := Lib.hid (bC.below hbc hlt0)
  have hzc := hbc.size
  have hne1 : ¬ b11 = w.heap.size := by omega
  have hne2 : ¬ w.heap.size = b11 := by omega
  clear bC bL bR bS hbc FB
  obtain ⟨xC0, yC0⟩ := bC2.out 0 _ rfl
  obtain ⟨xC1, yC1⟩ := bC2.out 1 _ rfl
  obtain ⟨xC2, yC2⟩ := bC2.out 2 _ rfl
  obtain ⟨xC3, yC3⟩ := bC2.out 3 _ rfl
  obtain ⟨xC4, yC4⟩ := bC2.out 4 _ rfl
  obtain ⟨xX0, yX0⟩ := bX 0 _ rfl
  obtain ⟨xX1, yX1⟩ := bX 1 _ rfl
  go_wp2_with fail
  refine (BD.out _).mono ?_
  rintro e w5 ⟨rfl, hb5⟩
  have HB5 := HBC.out.trans (hb5.mono HBC.out.size)
  obtain ⟨xR0, yR0⟩ := BR.out.1.below HB5 hlt2 0 _ rfl
  obtain ⟨xR1, yR1⟩ := BR.out.1.below HB5 hlt2 1 _ rfl
  obtain ⟨xS0, yS0⟩ := BR.out.2.below HB5 hlt3 0 _ rfl
  obtain ⟨xS1, yS1⟩ := BR.out.2.below HB5 hlt3 1 _ rfl
  have F5 := Lib.hid (FB1.out.trans (HB5.mono (by omega)))
  clear hb5 HB5
  go_wp2
  refine bodyPost_ret (v := .tuple #[.agg #[.int .i64 N, .int .i64 E], .agg #[.int .i64 (clampI P (l * 64) (h * 64)), .int .i64 (clampI E (-(clampI P (l * 64) (h * 64))) (clampI P (l * 64) (h * 64)))]]) (by simp [results, Try.results127, go_sem, xR0, yR0, xR1, yR1, xS0, yS0, xS1, yS1]) rfl ⟨rfl, ?_⟩
  exact (((F5.out.setCell (by simp <;> omega) _).setCell (by simp <;> omega) _).setCell (by simp <;> omega) _).setCell (by simp <;> omega) _
set_option maxHeartbeats 8000000 in
theorem step_1 (c l h p s P o gap N E Q : Int) (w : World) (hp0 : p = 0) (hs0 : ¬ s = 0) (f1 : 2 ≤ l ∧ l ≤ 400) (f2 : 2 ≤ h ∧ h ≤ 400) (f3 : 0 ≤ p ∧ p ≤ 64) (f4 : 0 ≤ s ∧ s ≤ 64) (p1 : 128 ≤ P) (p2 : P ≤ 25600) (o1 : -25600 ≤ o) (o2 : o ≤ 25600) (g1 : 1 ≤ gap) (g2 : gap ≤ 2000000)
    (hN : stN P o gap = N) (hE : stE P o gap = E) :
    Calls Try.prog 127 #[.agg #[.int .i64 c, .int .i64 l, .int .i64 h, .int .i64 p, .int .i64 s], .agg #[.int .i64 P, .int .i64 o], .int .i64 gap] w fun e w' => e = .returned (.tuple #[.agg #[.int .i64 N, .int .i64 E], .agg #[.int .i64 (stPer l h s P o gap), .int .i64 (stOff l h p s P o gap)]]) ∧ Below w.heap.size w w' := by
  obtain ⟨n1, n2, e1, e2, m1, m2⟩ := st_bd p1 p2 o1 o2 g1 g2
  have PH := Lib.hid (fun w => phase_any c l h p s w)
  have hpb := stPer0_bd (sp := s) f4.1 n1 p1 p2 e1 e2
  have hob := stOff0_bd (ph := p) f3.1 e1 e2
  have BD := Lib.hid (fun w => bounded_any c l h p s (stPer0 s P (stN P o gap) (stE P o gap)) (stOff0 p (stE P o gap)) w f1.1 f1.2 f2.1 f2.2)
  have HV := Lib.hid (show stPer l h s P o gap = clampI (stPer0 s P (stN P o gap) (stE P o gap)) (l * 64) (h * 64) from rfl)
  have HW := Lib.hid (show stOff l h p s P o gap = clampI (stOff0 p (stE P o gap)) (-(stPer l h s P o gap)) (stPer l h s P o gap) from rfl)
  rw [HW.out, HV.out]
  rw [hN, hE] at BD hpb ⊢
  rw [hE] at hob
  rw [hN] at n1 n2 m1 m2
  rw [hE] at e1 e2
  clear HV HW
  have hp2 : P.tdiv 2 = P / 2 := Int.tdiv_eq_ediv_of_nonneg (by omega)
  have HQB := Lib.hid (stQ_bd p1 p2 o1 o2 g1 g2)
  have hEE := hE
  unfold stE at hEE
  rw [hN] at hEE
  unfold stN at hN
  rw [hp2] at hN HQB
  obtain ⟨X, hX⟩ : ∃ X, gap * 64 + o + P / 2 = X := ⟨_, rfl⟩
  rw [hX] at hN HQB
  obtain ⟨q, hq⟩ : ∃ q, X.tdiv P = q := ⟨_, rfl⟩
  rw [hq] at hN HQB
  have hq1 := HQB.out
  have hNif : (if q < 1 then 1 else q) = N := by rw [← hN]; split <;> omega
  obtain ⟨M, hM⟩ : ∃ M, N * P = M := ⟨_, rfl⟩
  rw [hM] at hEE m1 m2
  have hwM : wrap64 M = M := by unfold wrap64; omega
  have hwE : wrap64 (gap * 64 + o - M) = E := by unfold wrap64; omega
  have hP0 : ¬ P = 0 := by omega
  have hwq : wrap64 q = q := by unfold wrap64; omega
  have hwq2 : IntKind.i64.wrap q = q := IntWalk.i64_in _ (by omega)
  have HX := Lib.hid (And.intro hX (And.intro hq (And.intro hN hE)))
  have HNN := Lib.hid (And.intro hNif (And.intro hM (And.intro hwM hwE)))
  clear hN hE hEE hNif hM hwM hwE
  have hpf : phaseF c l h p s = .func (.func 141) #[] #[] := by unfold phaseF; rw [if_pos hp0]
  rw [hpf] at PH
  have KA := Lib.hid (fun w => (keepAll_any E w).mono (fun e w' ⟨h1, h2⟩ => (show e = Ending.returned (.int .i64 E) ∧ Below w.heap.size w w' from ⟨h1, h2 ▸ Below.refl _ _⟩)))
  have HO := Lib.hid (show stOff0 p E = E by unfold stOff0; rw [if_pos hp0])
  clear hpf
  have HPP := Lib.hid (show stPer0 s P N E = P + E.tdiv (N * s) by unfold stPer0; rw [if_neg hs0])
  have hs1 : (0 : Int) < s := by omega
  have hns : 1 ≤ N * s ∧ N * s ≤ 200000000 := by
    have h1 := Int.mul_le_mul n1 (show 1 ≤ s by omega) (by omega) (by omega)
    have h2 := Int.mul_le_mul n2 (show s ≤ 64 by omega) (by omega) (by omega)
    omega
  have hpb2 := hpb
  unfold stPer0 at hpb2
  rw [if_neg hs0] at hpb2
  clear hp0 hs0
  rw [HO.out, HPP.out] at BD ⊢
  go_enter Try.func127, Try.ntmps127
  go_upto_region 4 with (fail)
  simp only [HNN.out.1, HNN.out.2.1, HNN.out.2.2.1, HNN.out.2.2.2]
  have bC : BoxF ((((w.alloc (.cells #[.int .i64 c, .int .i64 l, .int .i64 h, .int .i64 p, .int .i64 s] 59)).alloc (.cells #[.int .i64 P, .int .i64 o] 166)).alloc (.cells #[.int .i64 0, .int .i64 0] 127)).alloc (.cells #[.int .i64 0, .int .i64 0] 166)) w.heap.size #[.int .i64 c, .int .i64 l, .int .i64 h, .int .i64 p, .int .i64 s] := boxF5 (by simp [go_sem]) (by simp [go_sem]) (by simp [go_sem]) (by simp [go_sem]) (by simp [go_sem])
  have bL : BoxF ((((w.alloc (.cells #[.int .i64 c, .int .i64 l, .int .i64 h, .int .i64 p, .int .i64 s] 59)).alloc (.cells #[.int .i64 P, .int .i64 o] 166)).alloc (.cells #[.int .i64 0, .int .i64 0] 127)).alloc (.cells #[.int .i64 0, .int .i64 0] 166)) (w.heap.size + 1) #[.int .i64 P, .int .i64 o] := boxF2 (by simp [go_sem]) (by simp [go_sem])
  have bR : BoxF ((((w.alloc (.cells #[.int .i64 c, .int .i64 l, .int .i64 h, .int .i64 p, .int .i64 s] 59)).alloc (.cells #[.int .i64 P, .int .i64 o] 166)).alloc (.cells #[.int .i64 0, .int .i64 0] 127)).alloc (.cells #[.int .i64 0, .int .i64 0] 166)) (w.heap.size + 1 + 1) #[.int .i64 0, .int .i64 0] := boxF2 (by simp [go_sem]) (by simp [go_sem])
  have bS : BoxF ((((w.alloc (.cells #[.int .i64 c, .int .i64 l, .int .i64 h, .int .i64 p, .int .i64 s] 59)).alloc (.cells #[.int .i64 P, .int .i64 o] 166)).alloc (.cells #[.int .i64 0, .int .i64 0] 127)).alloc (.cells #[.int .i64 0, .int .i64 0] 166)) (w.heap.size + 1 + 1 + 1) #[.int .i64 0, .int .i64 0] := boxF2 (by simp [go_sem]) (by simp [go_sem])
  have FB := Lib.hid (show Below w.heap.size w ((((w.alloc (.cells #[.int .i64 c, .int .i64 l, .int .i64 h, .int .i64 p, .int .i64 s] 59)).alloc (.cells #[.int .i64 P, .int .i64 o] 166)).alloc (.cells #[.int .i64 0, .int .i64 0] 127)).alloc (.cells #[.int .i64 0, .int .i64 0] 166)) by go_grown)
  have hlt3 : w.heap.size + 1 + 1 + 1 < ((((w.alloc (.cells #[.int .i64 c, .int .i64 l, .int .i64 h, .int .i64 p, .int .i64 s] 59)).alloc (.cells #[.int .i64 P, .int .i64 o] 166)).alloc (.cells #[.int .i64 0, .int .i64 0] 127)).alloc (.cells #[.int .i64 0, .int .i64 0] 166)).heap.size := by simp
  generalize ((((w.alloc (.cells #[.int .i64 c, .int .i64 l, .int .i64 h, .int .i64 p, .int .i64 s] 59)).alloc (.cells #[.int .i64 P, .int .i64 o] 166)).alloc (.cells #[.int .i64 0, .int .i64 0] 127)).alloc (.cells #[.int .i64 0, .int .i64 0] 166)) = W at *
  have hlt2 : w.heap.size + 1 + 1 < W.heap.size := by omega
  have hlt1 : w.heap.size + 1 < W.heap.size := by omega
  have hlt0 : w.heap.size < W.heap.size := by omega
  go_cut [11] (fun v11 wx => Hid (OneIn2 (.int .i64 P) (.int .i64 E) W wx v11 ∧ Below W.heap.size W wx))
  case first =>
    have BC := Lib.hid (fun w' (hb : Below W.heap.size W w') => (bC.below hb hlt0).box)
    have BL := Lib.hid (fun w' (hb : Below W.heap.size W w') => (bL.below hb hlt1).box)
    have KS := Lib.hid (fun w' (hb : Below W.heap.size W w') => (show w'.cell? ⟨w.heap.size, 0, none⟩ = some (.int .i64 c) ∧ w'.cell? ⟨w.heap.size, 1, none⟩ = some (.int .i64 l) ∧ w'.cell? ⟨w.heap.size, 2, none⟩ = some (.int .i64 h) ∧ w'.cell? ⟨w.heap.size, 3, none⟩ = some (.int .i64 p) ∧ w'.cell? ⟨w.heap.size, 4, none⟩ = some (.int .i64 s) ∧ w'.cell? ⟨w.heap.size + 1, 0, none⟩ = some (.int .i64 P) ∧ w'.cell? ⟨w.heap.size + 1, 1, none⟩ = some (.int .i64 o) from ⟨BC.out w' hb 0 _ rfl, BC.out w' hb 1 _ rfl, BC.out w' hb 2 _ rfl, BC.out w' hb 3 _ rfl, BC.out w' hb 4 _ rfl, BL.out w' hb 0 _ rfl, BL.out w' hb 1 _ rfl⟩))
    have HC := Lib.hid (show Below W.heap.size W W.drew from (Below.refl _ _).drew)
    clear bC bL bR bS
    refine wp_region_held_drew (S := (fun w' => w'.cell? ⟨w.heap.size, 0, none⟩ = some (.int .i64 c) ∧ w'.cell? ⟨w.heap.size, 1, none⟩ = some (.int .i64 l) ∧ w'.cell? ⟨w.heap.size, 2, none⟩ = some (.int .i64 h) ∧ w'.cell? ⟨w.heap.size, 3, none⟩ = some (.int .i64 p) ∧ w'.cell? ⟨w.heap.size, 4, none⟩ = some (.int .i64 s) ∧ w'.cell? ⟨w.heap.size + 1, 0, none⟩ = some (.int .i64 P) ∧ w'.cell? ⟨w.heap.size + 1, 1, none⟩ = some (.int .i64 o))) (by kernel_rfl) (KS.out _ HC.out) (fun hHeld => ?_)
    refine wpAnyH_take (i := 0) (oi := { dst := some 32, op := Op.fieldAddr 166 (Operand.tmp 4) 0, type := 0, pos := "l03_clock.go:80", after := #[], guard := none }) (v := ?_) rfl (by kernel_rfl) (by kernel_rfl) (by kernel_rfl) (fun _ _ _ h => h) (Or.inl ⟨by rfl, ?hy⟩) hHeld ?_
    case hy => (intro w' hSw; (try dsimp only at hSw); go_simp; try with_reducible rfl)
    simp only [Act.put, List.setIfInBounds_toArray, List.set_cons_zero, List.set_cons_succ]
    refine wpAnyH_take (i := 1) (oi := { dst := some 33, op := Op.load 2 (Operand.tmp 32), type := 2, pos := "l03_clock.go:80", after := #[{ on := 0, ground := Ground.data }], guard := none }) (v := ?_) rfl (by kernel_rfl) (by kernel_rfl) (by kernel_rfl) (fun _ _ _ h => h) (Or.inl ⟨by rfl, ?hy⟩) hHeld ?_
    case hy => (intro w' hSw; (try dsimp only at hSw); go_simp; try with_reducible rfl)
    simp only [Act.put, List.setIfInBounds_toArray, List.set_cons_zero, List.set_cons_succ]
    refine wpAnyH_take (i := 2) (oi := { dst := some 34, op := Op.load 59 (Operand.tmp 3), type := 59, pos := "l03_clock.go:80", after := #[], guard := none }) (v := ?_) rfl (by kernel_rfl) (by kernel_rfl) (by kernel_rfl) (fun _ _ _ h => h) (Or.inl ⟨by rfl, ?hy⟩) hHeld ?_
    case hy => (intro w' hSw; (try dsimp only at hSw); go_simp; try with_reducible rfl)
    simp only [Act.put, List.setIfInBounds_toArray, List.set_cons_zero, List.set_cons_succ]
    refine wpAnyH_take (i := 4) (oi := { dst := some 36, op := Op.move (Operand.tmp 10), type := 2, pos := "l03_clock.go:80", after := #[], guard := none }) (v := ?_) rfl (by kernel_rfl) (by kernel_rfl) (by kernel_rfl) (fun _ _ _ h => h) (Or.inl ⟨by rfl, ?hy⟩) hHeld ?_
    case hy => (intro w' hSw; (try dsimp only at hSw); go_simp; try with_reducible rfl)
    simp only [Act.put, List.setIfInBounds_toArray, List.set_cons_zero, List.set_cons_succ]
    refine wpAnyH_ready (rs := [3, 7]) (by kernel_rfl) (by simp) ?_
    refine AllReadyH.cons (o := { dst := some 35, op := Op.call { callee := Callee.value (Operand.func 138), args := #[Operand.tmp 34], argTypes := #[59] }, type := 82, pos := "l03_clock.go:80", after := #[{ on := 2, ground := Ground.data }], guard := none }) rfl (fun K hK => ?_) (AllReadyH.cons (o := { dst := some 11, op := Op.alloc 166, type := 0, pos := "l03_clock.go:80", after := #[], guard := none }) rfl (fun K hK => ?_) AllReadyH.nil)
    · go_simp
      go_at_call 138; refine (PH.out _).mono ?_; rintro e w2 ⟨rfl, hb2⟩; replace HC := Lib.hid (HC.out.trans (hb2.mono HC.out.size)); (try (replace EA := Lib.hid (EA.out.below hb2)))
      go_wp2_with fail
      refine hK.out _ _ (KS.out _ HC.out) (fun hHeld => ?_)
      clear hK K
      try simp only [Act.put, List.setIfInBounds_toArray, List.set_cons_zero, List.set_cons_succ]
      refine wpAnyH_ready (rs := [5, 7]) (by kernel_rfl) (by simp) ?_
      refine AllReadyH.cons (o := { dst := some 37, op := Op.call { callee := Callee.value (Operand.tmp 35), args := #[Operand.tmp 36], argTypes := #[2] }, type := 2, pos := "l03_clock.go:80", after := #[{ on := 3, ground := Ground.data }, { on := 4, ground := Ground.data }, { on := 3, ground := Ground.chain }], guard := none }) rfl (fun K hK => ?_) (AllReadyH.cons (o := { dst := some 11, op := Op.alloc 166, type := 0, pos := "l03_clock.go:80", after := #[], guard := none }) rfl (fun K hK => ?_) AllReadyH.nil)
      · go_simp
        go_at_call 141; refine (KA.out _).mono ?_; rintro e w3 ⟨rfl, hb3⟩; replace HC := Lib.hid (HC.out.trans (hb3.mono HC.out.size)); (try (replace EA := Lib.hid (EA.out.below hb3)))
        go_wp2_with fail
        refine hK.out _ _ (KS.out _ HC.out) (fun hHeld => ?_)
        clear hK K
        try simp only [Act.put, List.setIfInBounds_toArray, List.set_cons_zero, List.set_cons_succ]
        refine wpAnyH_take (i := 6) (oi := { dst := some 38, op := Op.build 166 #[(0, Operand.tmp 33), (1, Operand.tmp 37)], type := 166, pos := "l03_clock.go:80", after := #[{ on := 1, ground := Ground.data }, { on := 5, ground := Ground.data }], guard := none }) (v := ?_) rfl (by kernel_rfl) (by kernel_rfl) (by kernel_rfl) (fun _ _ _ h => h) (Or.inl ⟨by rfl, ?hy⟩) hHeld ?_
        case hy => (intro w' hSw; (try dsimp only at hSw); go_simp; try with_reducible rfl)
        simp only [Act.put, List.setIfInBounds_toArray, List.set_cons_zero, List.set_cons_succ]
        refine wpAnyH_ready (rs := [7]) (by kernel_rfl) (by simp) ?_
        refine AllReadyH.cons (o := { dst := some 11, op := Op.alloc 166, type := 0, pos := "l03_clock.go:80", after := #[], guard := none }) rfl (fun K hK => ?_) AllReadyH.nil
        have EA := Lib.hid ((fun (V : World) (h : Below W.heap.size W V) => MadeAt.new V (.cells #[.int .i64 0, .int .i64 0] 166)) _ HC.out)
        have PA := Lib.hid HC.out.size
        replace HC := Lib.hid (HC.out.alloc HC.out.size (.cells #[.int .i64 0, .int .i64 0] 166))
        go_simp
        refine hK.out _ _ (KS.out _ HC.out) (fun hHeld => ?_)
        clear hK K
        try simp only [Act.put, List.setIfInBounds_toArray, List.set_cons_zero, List.set_cons_succ]
        generalize hVA : w3.alloc (.cells #[.int .i64 0, .int .i64 0] 166) = VA at *
        clear hVA
        refine wpAnyH_ready (rs := [8]) (by kernel_rfl) (by simp) ?_
        refine AllReadyH.cons (o := { dst := none, op := Op.store 166 (Operand.tmp 11) (Operand.tmp 38), type := 0, pos := "l03_clock.go:80", after := #[{ on := 7, ground := Ground.data }, { on := 6, ground := Ground.data }, { on := 5, ground := Ground.chain }, { on := 0, ground := Ground.phase }, { on := 1, ground := Ground.phase }, { on := 2, ground := Ground.phase }, { on := 3, ground := Ground.phase }, { on := 4, ground := Ground.phase }, { on := 5, ground := Ground.phase }, { on := 6, ground := Ground.phase }, { on := 7, ground := Ground.phase }], guard := none }) rfl (fun K hK => ?_) AllReadyH.nil
        obtain ⟨qa0, qb0⟩ := EA.out.at 0 rfl
        obtain ⟨qa1, qb1⟩ := EA.out.at 1 rfl
        go_simp
        refine hK.out _ _ (KS.out _ ((HC.out.setCell PA.out _).setCell PA.out _)) (fun hHeld => ?_)
        clear hK K
        try simp only [Act.put, List.setIfInBounds_toArray, List.set_cons_zero, List.set_cons_succ]
        refine wpAnyH_done (by kernel_rfl) ?_ _
        go_wp2_with fail
        go_meet
        case rel => exact Lib.hid ⟨OneIn2.mk PA.out EA.out, (HC.out.setCell PA.out _).setCell PA.out _⟩
      · have EA := Lib.hid ((fun (V : World) (h : Below W.heap.size W V) => MadeAt.new V (.cells #[.int .i64 0, .int .i64 0] 166)) _ HC.out)
        have PA := Lib.hid HC.out.size
        replace HC := Lib.hid (HC.out.alloc HC.out.size (.cells #[.int .i64 0, .int .i64 0] 166))
        go_simp
        refine hK.out _ _ (KS.out _ HC.out) (fun hHeld => ?_)
        clear hK K
        try simp only [Act.put, List.setIfInBounds_toArray, List.set_cons_zero, List.set_cons_succ]
        generalize hVA : w2.alloc (.cells #[.int .i64 0, .int .i64 0] 166) = VA at *
        clear hVA
        refine wpAnyH_ready (rs := [5]) (by kernel_rfl) (by simp) ?_
        refine AllReadyH.cons (o := { dst := some 37, op := Op.call { callee := Callee.value (Operand.tmp 35), args := #[Operand.tmp 36], argTypes := #[2] }, type := 2, pos := "l03_clock.go:80", after := #[{ on := 3, ground := Ground.data }, { on := 4, ground := Ground.data }, { on := 3, ground := Ground.chain }], guard := none }) rfl (fun K hK => ?_) AllReadyH.nil
        go_simp
        go_at_call 141; refine (KA.out _).mono ?_; rintro e w3 ⟨rfl, hb3⟩; replace HC := Lib.hid (HC.out.trans (hb3.mono HC.out.size)); (try (replace EA := Lib.hid (EA.out.below hb3)))
        go_wp2_with fail
        refine hK.out _ _ (KS.out _ HC.out) (fun hHeld => ?_)
        clear hK K
        try simp only [Act.put, List.setIfInBounds_toArray, List.set_cons_zero, List.set_cons_succ]
        refine wpAnyH_take (i := 6) (oi := { dst := some 38, op := Op.build 166 #[(0, Operand.tmp 33), (1, Operand.tmp 37)], type := 166, pos := "l03_clock.go:80", after := #[{ on := 1, ground := Ground.data }, { on := 5, ground := Ground.data }], guard := none }) (v := ?_) rfl (by kernel_rfl) (by kernel_rfl) (by kernel_rfl) (fun _ _ _ h => h) (Or.inl ⟨by rfl, ?hy⟩) hHeld ?_
        case hy => (intro w' hSw; (try dsimp only at hSw); go_simp; try with_reducible rfl)
        simp only [Act.put, List.setIfInBounds_toArray, List.set_cons_zero, List.set_cons_succ]
        refine wpAnyH_ready (rs := [8]) (by kernel_rfl) (by simp) ?_
        refine AllReadyH.cons (o := { dst := none, op := Op.store 166 (Operand.tmp 11) (Operand.tmp 38), type := 0, pos := "l03_clock.go:80", after := #[{ on := 7, ground := Ground.data }, { on := 6, ground := Ground.data }, { on := 5, ground := Ground.chain }, { on := 0, ground := Ground.phase }, { on := 1, ground := Ground.phase }, { on := 2, ground := Ground.phase }, { on := 3, ground := Ground.phase }, { on := 4, ground := Ground.phase }, { on := 5, ground := Ground.phase }, { on := 6, ground := Ground.phase }, { on := 7, ground := Ground.phase }], guard := none }) rfl (fun K hK => ?_) AllReadyH.nil
        obtain ⟨qa0, qb0⟩ := EA.out.at 0 rfl
        obtain ⟨qa1, qb1⟩ := EA.out.at 1 rfl
        go_simp
        refine hK.out _ _ (KS.out _ ((HC.out.setCell PA.out _).setCell PA.out _)) (fun hHeld => ?_)
        clear hK K
        try simp only [Act.put, List.setIfInBounds_toArray, List.set_cons_zero, List.set_cons_succ]
        refine wpAnyH_done (by kernel_rfl) ?_ _
        go_wp2_with fail
        go_meet
        case rel => exact Lib.hid ⟨OneIn2.mk PA.out EA.out, (HC.out.setCell PA.out _).setCell PA.out _⟩
    · have EA := Lib.hid (show MadeAt (W.alloc (.cells #[.int .i64 0, .int .i64 0] 166)).drew W.heap.size (.cells #[.int .i64 0, .int .i64 0] 166) from MadeAt.new W (.cells #[.int .i64 0, .int .i64 0] 166))
      have PA := Lib.hid (Nat.le_refl W.heap.size)
      replace HC := Lib.hid (show Below W.heap.size W (W.alloc (.cells #[.int .i64 0, .int .i64 0] 166)).drew from ((Below.refl _ _).alloc (Nat.le_refl _) (.cells #[.int .i64 0, .int .i64 0] 166)).drew)
      go_simp
      refine hK.out _ _ (KS.out _ HC.out) (fun hHeld => ?_)
      clear hK K
      try simp only [Act.put, List.setIfInBounds_toArray, List.set_cons_zero, List.set_cons_succ]
      generalize hVA : (W.alloc (.cells #[.int .i64 0, .int .i64 0] 166)).drew = VA at *
      clear hVA
      refine wpAnyH_ready (rs := [3]) (by kernel_rfl) (by simp) ?_
      refine AllReadyH.cons (o := { dst := some 35, op := Op.call { callee := Callee.value (Operand.func 138), args := #[Operand.tmp 34], argTypes := #[59] }, type := 82, pos := "l03_clock.go:80", after := #[{ on := 2, ground := Ground.data }], guard := none }) rfl (fun K hK => ?_) AllReadyH.nil
      go_simp
      go_at_call 138; refine (PH.out _).mono ?_; rintro e w2 ⟨rfl, hb2⟩; replace HC := Lib.hid (HC.out.trans (hb2.mono HC.out.size)); (try (replace EA := Lib.hid (EA.out.below hb2)))
      go_wp2_with fail
      refine hK.out _ _ (KS.out _ HC.out) (fun hHeld => ?_)
      clear hK K
      try simp only [Act.put, List.setIfInBounds_toArray, List.set_cons_zero, List.set_cons_succ]
      refine wpAnyH_ready (rs := [5]) (by kernel_rfl) (by simp) ?_
      refine AllReadyH.cons (o := { dst := some 37, op := Op.call { callee := Callee.value (Operand.tmp 35), args := #[Operand.tmp 36], argTypes := #[2] }, type := 2, pos := "l03_clock.go:80", after := #[{ on := 3, ground := Ground.data }, { on := 4, ground := Ground.data }, { on := 3, ground := Ground.chain }], guard := none }) rfl (fun K hK => ?_) AllReadyH.nil
      go_simp
      go_at_call 141; refine (KA.out _).mono ?_; rintro e w3 ⟨rfl, hb3⟩; replace HC := Lib.hid (HC.out.trans (hb3.mono HC.out.size)); (try (replace EA := Lib.hid (EA.out.below hb3)))
      go_wp2_with fail
      refine hK.out _ _ (KS.out _ HC.out) (fun hHeld => ?_)
      clear hK K
      try simp only [Act.put, List.setIfInBounds_toArray, List.set_cons_zero, List.set_cons_succ]
      refine wpAnyH_take (i := 6) (oi := { dst := some 38, op := Op.build 166 #[(0, Operand.tmp 33), (1, Operand.tmp 37)], type := 166, pos := "l03_clock.go:80", after := #[{ on := 1, ground := Ground.data }, { on := 5, ground := Ground.data }], guard := none }) (v := ?_) rfl (by kernel_rfl) (by kernel_rfl) (by kernel_rfl) (fun _ _ _ h => h) (Or.inl ⟨by rfl, ?hy⟩) hHeld ?_
      case hy => (intro w' hSw; (try dsimp only at hSw); go_simp; try with_reducible rfl)
      simp only [Act.put, List.setIfInBounds_toArray, List.set_cons_zero, List.set_cons_succ]
      refine wpAnyH_ready (rs := [8]) (by kernel_rfl) (by simp) ?_
      refine AllReadyH.cons (o := { dst := none, op := Op.store 166 (Operand.tmp 11) (Operand.tmp 38), type := 0, pos := "l03_clock.go:80", after := #[{ on := 7, ground := Ground.data }, { on := 6, ground := Ground.data }, { on := 5, ground := Ground.chain }, { on := 0, ground := Ground.phase }, { on := 1, ground := Ground.phase }, { on := 2, ground := Ground.phase }, { on := 3, ground := Ground.phase }, { on := 4, ground := Ground.phase }, { on := 5, ground := Ground.phase }, { on := 6, ground := Ground.phase }, { on := 7, ground := Ground.phase }], guard := none }) rfl (fun K hK => ?_) AllReadyH.nil
      obtain ⟨qa0, qb0⟩ := EA.out.at 0 rfl
      obtain ⟨qa1, qb1⟩ := EA.out.at 1 rfl
      go_simp
      refine hK.out _ _ (KS.out _ ((HC.out.setCell PA.out _).setCell PA.out _)) (fun hHeld => ?_)
      clear hK K
      try simp only [Act.put, List.setIfInBounds_toArray, List.set_cons_zero, List.set_cons_succ]
      refine wpAnyH_done (by kernel_rfl) ?_ _
      go_wp2_with fail
      go_meet
      case rel => exact Lib.hid ⟨OneIn2.mk PA.out EA.out, (HC.out.setCell PA.out _).setCell PA.out _⟩
  obtain ⟨⟨b11, rfl, hb11, hbl11, bX⟩, hbc⟩ := hcut.out
  clear hcut PH KA
  have BR := Lib.hid (And.intro bR bS)
  have BC0 := Lib.hid bC
  have HBC := Lib.hid hbc
  have FB1 := Lib.hid FB.out
  have bC2 := Lib.hid (bC.below hbc hlt0)
  have hzc := hbc.size
  have hne1 : ¬ b11 = w.heap.size := by omega
  have hne2 : ¬ w.heap.size = b11 := by omega
  clear bC bL bR bS hbc FB
  obtain ⟨xC0, yC0⟩ := bC2.out 0 _ rfl
  obtain ⟨xC1, yC1⟩ := bC2.out 1 _ rfl
  obtain ⟨xC2, yC2⟩ := bC2.out 2 _ rfl
  obtain ⟨xC3, yC3⟩ := bC2.out 3 _ rfl
  obtain ⟨xC4, yC4⟩ := bC2.out 4 _ rfl
  obtain ⟨xX0, yX0⟩ := bX 0 _ rfl
  obtain ⟨xX1, yX1⟩ := bX 1 _ rfl
  obtain ⟨NS, hNS⟩ : ∃ y, N * s = y := ⟨_, rfl⟩
  rw [hNS] at hns hpb2 BD
  obtain ⟨D, hD⟩ : ∃ y, E.tdiv NS = y := ⟨_, rfl⟩
  have hDb := tdiv_bd hns.1 (e := E) (by omega) (by omega)
  rw [hD] at hpb2 BD hDb
  have HNS := Lib.hid (And.intro hNS hD)
  have hwN : wrap64 NS = NS := by unfold wrap64; omega
  have hwD : wrap64 D = D := by unfold wrap64; omega
  have hwD2 : IntKind.i64.wrap D = D := IntWalk.i64_in _ (by omega)
  have hNS0 : ¬ NS = 0 := by omega
  go_wp2
  go_region
  have HB6 := Lib.hid (show Below W.heap.size W (wc.setCell ⟨b11, 0, none⟩ (.int .i64 (P + D))).drew from (HBC.out.setCell hb11 _).drew)
  have X6 : BoxF (wc.setCell ⟨b11, 0, none⟩ (.int .i64 (P + D))).drew b11 #[.int .i64 (P + D), .int .i64 E] := boxF2 (by simp [go_sem, xX0, yX0]) (by simp [go_sem, xX1, yX1])
  have C6 := Lib.hid (BC0.out.below HB6.out hlt0)
  generalize (wc.setCell ⟨b11, 0, none⟩ (.int .i64 (P + D))).drew = w6 at *
  clear xC0 yC0 xC1 yC1 xC2 yC2 xC3 yC3 xC4 yC4 xX0 yX0 xX1 yX1
  obtain ⟨xX0, yX0⟩ := X6 0 _ rfl
  obtain ⟨xX1, yX1⟩ := X6 1 _ rfl
  obtain ⟨xC0, yC0⟩ := C6.out 0 _ rfl
  obtain ⟨xC1, yC1⟩ := C6.out 1 _ rfl
  obtain ⟨xC2, yC2⟩ := C6.out 2 _ rfl
  obtain ⟨xC3, yC3⟩ := C6.out 3 _ rfl
  obtain ⟨xC4, yC4⟩ := C6.out 4 _ rfl
  go_wp2_with fail
  refine (BD.out _).mono ?_
  rintro e w5 ⟨rfl, hb5⟩
  have HB5 := HB6.out.trans (hb5.mono HB6.out.size)
  obtain ⟨xR0, yR0⟩ := BR.out.1.below HB5 hlt2 0 _ rfl
  obtain ⟨xR1, yR1⟩ := BR.out.1.below HB5 hlt2 1 _ rfl
  obtain ⟨xS0, yS0⟩ := BR.out.2.below HB5 hlt3 0 _ rfl
  obtain ⟨xS1, yS1⟩ := BR.out.2.below HB5 hlt3 1 _ rfl
  have F5 := Lib.hid (FB1.out.trans (HB5.mono (by omega)))
  clear hb5 HB5
  go_wp2
  refine bodyPost_ret (v := .tuple #[.agg #[.int .i64 N, .int .i64 E], .agg #[.int .i64 (clampI (P + D) (l * 64) (h * 64)), .int .i64 (clampI E (-(clampI (P + D) (l * 64) (h * 64))) (clampI (P + D) (l * 64) (h * 64)))]]) (by simp [results, Try.results127, go_sem, xR0, yR0, xR1, yR1, xS0, yS0, xS1, yS1]) rfl ⟨by rw [HNS.out.1, HNS.out.2], ?_⟩
  exact (((F5.out.setCell (by simp <;> omega) _).setCell (by simp <;> omega) _).setCell (by simp <;> omega) _).setCell (by simp <;> omega) _
set_option maxHeartbeats 8000000 in
theorem step_2 (c l h p s P o gap N E Q : Int) (w : World) (hp0 : ¬ p = 0) (hs0 : s = 0) (f1 : 2 ≤ l ∧ l ≤ 400) (f2 : 2 ≤ h ∧ h ≤ 400) (f3 : 0 ≤ p ∧ p ≤ 64) (f4 : 0 ≤ s ∧ s ≤ 64) (p1 : 128 ≤ P) (p2 : P ≤ 25600) (o1 : -25600 ≤ o) (o2 : o ≤ 25600) (g1 : 1 ≤ gap) (g2 : gap ≤ 2000000)
    (hN : stN P o gap = N) (hE : stE P o gap = E) :
    Calls Try.prog 127 #[.agg #[.int .i64 c, .int .i64 l, .int .i64 h, .int .i64 p, .int .i64 s], .agg #[.int .i64 P, .int .i64 o], .int .i64 gap] w fun e w' => e = .returned (.tuple #[.agg #[.int .i64 N, .int .i64 E], .agg #[.int .i64 (stPer l h s P o gap), .int .i64 (stOff l h p s P o gap)]]) ∧ Below w.heap.size w w' := by
  obtain ⟨n1, n2, e1, e2, m1, m2⟩ := st_bd p1 p2 o1 o2 g1 g2
  have PH := Lib.hid (fun w => phase_any c l h p s w)
  have hpb := stPer0_bd (sp := s) f4.1 n1 p1 p2 e1 e2
  have hob := stOff0_bd (ph := p) f3.1 e1 e2
  have BD := Lib.hid (fun w => bounded_any c l h p s (stPer0 s P (stN P o gap) (stE P o gap)) (stOff0 p (stE P o gap)) w f1.1 f1.2 f2.1 f2.2)
  have HV := Lib.hid (show stPer l h s P o gap = clampI (stPer0 s P (stN P o gap) (stE P o gap)) (l * 64) (h * 64) from rfl)
  have HW := Lib.hid (show stOff l h p s P o gap = clampI (stOff0 p (stE P o gap)) (-(stPer l h s P o gap)) (stPer l h s P o gap) from rfl)
  rw [HW.out, HV.out]
  rw [hN, hE] at BD hpb ⊢
  rw [hE] at hob
  rw [hN] at n1 n2 m1 m2
  rw [hE] at e1 e2
  clear HV HW
  have hp2 : P.tdiv 2 = P / 2 := Int.tdiv_eq_ediv_of_nonneg (by omega)
  have HQB := Lib.hid (stQ_bd p1 p2 o1 o2 g1 g2)
  have hEE := hE
  unfold stE at hEE
  rw [hN] at hEE
  unfold stN at hN
  rw [hp2] at hN HQB
  obtain ⟨X, hX⟩ : ∃ X, gap * 64 + o + P / 2 = X := ⟨_, rfl⟩
  rw [hX] at hN HQB
  obtain ⟨q, hq⟩ : ∃ q, X.tdiv P = q := ⟨_, rfl⟩
  rw [hq] at hN HQB
  have hq1 := HQB.out
  have hNif : (if q < 1 then 1 else q) = N := by rw [← hN]; split <;> omega
  obtain ⟨M, hM⟩ : ∃ M, N * P = M := ⟨_, rfl⟩
  rw [hM] at hEE m1 m2
  have hwM : wrap64 M = M := by unfold wrap64; omega
  have hwE : wrap64 (gap * 64 + o - M) = E := by unfold wrap64; omega
  have hP0 : ¬ P = 0 := by omega
  have hwq : wrap64 q = q := by unfold wrap64; omega
  have hwq2 : IntKind.i64.wrap q = q := IntWalk.i64_in _ (by omega)
  have HX := Lib.hid (And.intro hX (And.intro hq (And.intro hN hE)))
  have HNN := Lib.hid (And.intro hNif (And.intro hM (And.intro hwM hwE)))
  clear hN hE hEE hNif hM hwM hwE
  have hpf : phaseF c l h p s = .func (.func 142) #[.agg #[.int .i64 c, .int .i64 l, .int .i64 h, .int .i64 p, .int .i64 s]] #[] := by unfold phaseF; rw [if_neg hp0]
  rw [hpf] at PH
  have KA := Lib.hid (fun w => keepRest_any c l h p s E w (by omega) (by omega) (by omega))
  have HO := Lib.hid (show stOff0 p E = E - E.tdiv p by unfold stOff0; rw [if_neg hp0])
  clear hpf
  have HPP := Lib.hid (show stPer0 s P N E = P by unfold stPer0; rw [if_pos hs0])
  have hs1 : ¬ (0 : Int) < s := by omega
  clear hp0 hs0
  rw [HO.out, HPP.out] at BD ⊢
  go_enter Try.func127, Try.ntmps127
  go_upto_region 4 with (fail)
  simp only [HNN.out.1, HNN.out.2.1, HNN.out.2.2.1, HNN.out.2.2.2]
  have bC : BoxF ((((w.alloc (.cells #[.int .i64 c, .int .i64 l, .int .i64 h, .int .i64 p, .int .i64 s] 59)).alloc (.cells #[.int .i64 P, .int .i64 o] 166)).alloc (.cells #[.int .i64 0, .int .i64 0] 127)).alloc (.cells #[.int .i64 0, .int .i64 0] 166)) w.heap.size #[.int .i64 c, .int .i64 l, .int .i64 h, .int .i64 p, .int .i64 s] := boxF5 (by simp [go_sem]) (by simp [go_sem]) (by simp [go_sem]) (by simp [go_sem]) (by simp [go_sem])
  have bL : BoxF ((((w.alloc (.cells #[.int .i64 c, .int .i64 l, .int .i64 h, .int .i64 p, .int .i64 s] 59)).alloc (.cells #[.int .i64 P, .int .i64 o] 166)).alloc (.cells #[.int .i64 0, .int .i64 0] 127)).alloc (.cells #[.int .i64 0, .int .i64 0] 166)) (w.heap.size + 1) #[.int .i64 P, .int .i64 o] := boxF2 (by simp [go_sem]) (by simp [go_sem])
  have bR : BoxF ((((w.alloc (.cells #[.int .i64 c, .int .i64 l, .int .i64 h, .int .i64 p, .int .i64 s] 59)).alloc (.cells #[.int .i64 P, .int .i64 o] 166)).alloc (.cells #[.int .i64 0, .int .i64 0] 127)).alloc (.cells #[.int .i64 0, .int .i64 0] 166)) (w.heap.size + 1 + 1) #[.int .i64 0, .int .i64 0] := boxF2 (by simp [go_sem]) (by simp [go_sem])
  have bS : BoxF ((((w.alloc (.cells #[.int .i64 c, .int .i64 l, .int .i64 h, .int .i64 p, .int .i64 s] 59)).alloc (.cells #[.int .i64 P, .int .i64 o] 166)).alloc (.cells #[.int .i64 0, .int .i64 0] 127)).alloc (.cells #[.int .i64 0, .int .i64 0] 166)) (w.heap.size + 1 + 1 + 1) #[.int .i64 0, .int .i64 0] := boxF2 (by simp [go_sem]) (by simp [go_sem])
  have FB := Lib.hid (show Below w.heap.size w ((((w.alloc (.cells #[.int .i64 c, .int .i64 l, .int .i64 h, .int .i64 p, .int .i64 s] 59)).alloc (.cells #[.int .i64 P, .int .i64 o] 166)).alloc (.cells #[.int .i64 0, .int .i64 0] 127)).alloc (.cells #[.int .i64 0, .int .i64 0] 166)) by go_grown)
  have hlt3 : w.heap.size + 1 + 1 + 1 < ((((w.alloc (.cells #[.int .i64 c, .int .i64 l, .int .i64 h, .int .i64 p, .int .i64 s] 59)).alloc (.cells #[.int .i64 P, .int .i64 o] 166)).alloc (.cells #[.int .i64 0, .int .i64 0] 127)).alloc (.cells #[.int .i64 0, .int .i64 0] 166)).heap.size := by simp
  generalize ((((w.alloc (.cells #[.int .i64 c, .int .i64 l, .int .i64 h, .int .i64 p, .int .i64 s] 59)).alloc (.cells #[.int .i64 P, .int .i64 o] 166)).alloc (.cells #[.int .i64 0, .int .i64 0] 127)).alloc (.cells #[.int .i64 0, .int .i64 0] 166)) = W at *
  have hlt2 : w.heap.size + 1 + 1 < W.heap.size := by omega
  have hlt1 : w.heap.size + 1 < W.heap.size := by omega
  have hlt0 : w.heap.size < W.heap.size := by omega
  go_cut [11] (fun v11 wx => Hid (OneIn2 (.int .i64 P) (.int .i64 (E - E.tdiv p)) W wx v11 ∧ Below W.heap.size W wx))
  case first =>
    have BC := Lib.hid (fun w' (hb : Below W.heap.size W w') => (bC.below hb hlt0).box)
    have BL := Lib.hid (fun w' (hb : Below W.heap.size W w') => (bL.below hb hlt1).box)
    have KS := Lib.hid (fun w' (hb : Below W.heap.size W w') => (show w'.cell? ⟨w.heap.size, 0, none⟩ = some (.int .i64 c) ∧ w'.cell? ⟨w.heap.size, 1, none⟩ = some (.int .i64 l) ∧ w'.cell? ⟨w.heap.size, 2, none⟩ = some (.int .i64 h) ∧ w'.cell? ⟨w.heap.size, 3, none⟩ = some (.int .i64 p) ∧ w'.cell? ⟨w.heap.size, 4, none⟩ = some (.int .i64 s) ∧ w'.cell? ⟨w.heap.size + 1, 0, none⟩ = some (.int .i64 P) ∧ w'.cell? ⟨w.heap.size + 1, 1, none⟩ = some (.int .i64 o) from ⟨BC.out w' hb 0 _ rfl, BC.out w' hb 1 _ rfl, BC.out w' hb 2 _ rfl, BC.out w' hb 3 _ rfl, BC.out w' hb 4 _ rfl, BL.out w' hb 0 _ rfl, BL.out w' hb 1 _ rfl⟩))
    have HC := Lib.hid (show Below W.heap.size W W.drew from (Below.refl _ _).drew)
    clear bC bL bR bS
    refine wp_region_held_drew (S := (fun w' => w'.cell? ⟨w.heap.size, 0, none⟩ = some (.int .i64 c) ∧ w'.cell? ⟨w.heap.size, 1, none⟩ = some (.int .i64 l) ∧ w'.cell? ⟨w.heap.size, 2, none⟩ = some (.int .i64 h) ∧ w'.cell? ⟨w.heap.size, 3, none⟩ = some (.int .i64 p) ∧ w'.cell? ⟨w.heap.size, 4, none⟩ = some (.int .i64 s) ∧ w'.cell? ⟨w.heap.size + 1, 0, none⟩ = some (.int .i64 P) ∧ w'.cell? ⟨w.heap.size + 1, 1, none⟩ = some (.int .i64 o))) (by kernel_rfl) (KS.out _ HC.out) (fun hHeld => ?_)
    refine wpAnyH_take (i := 0) (oi := { dst := some 32, op := Op.fieldAddr 166 (Operand.tmp 4) 0, type := 0, pos := "l03_clock.go:80", after := #[], guard := none }) (v := ?_) rfl (by kernel_rfl) (by kernel_rfl) (by kernel_rfl) (fun _ _ _ h => h) (Or.inl ⟨by rfl, ?hy⟩) hHeld ?_
    case hy => (intro w' hSw; (try dsimp only at hSw); go_simp; try with_reducible rfl)
    simp only [Act.put, List.setIfInBounds_toArray, List.set_cons_zero, List.set_cons_succ]
    refine wpAnyH_take (i := 1) (oi := { dst := some 33, op := Op.load 2 (Operand.tmp 32), type := 2, pos := "l03_clock.go:80", after := #[{ on := 0, ground := Ground.data }], guard := none }) (v := ?_) rfl (by kernel_rfl) (by kernel_rfl) (by kernel_rfl) (fun _ _ _ h => h) (Or.inl ⟨by rfl, ?hy⟩) hHeld ?_
    case hy => (intro w' hSw; (try dsimp only at hSw); go_simp; try with_reducible rfl)
    simp only [Act.put, List.setIfInBounds_toArray, List.set_cons_zero, List.set_cons_succ]
    refine wpAnyH_take (i := 2) (oi := { dst := some 34, op := Op.load 59 (Operand.tmp 3), type := 59, pos := "l03_clock.go:80", after := #[], guard := none }) (v := ?_) rfl (by kernel_rfl) (by kernel_rfl) (by kernel_rfl) (fun _ _ _ h => h) (Or.inl ⟨by rfl, ?hy⟩) hHeld ?_
    case hy => (intro w' hSw; (try dsimp only at hSw); go_simp; try with_reducible rfl)
    simp only [Act.put, List.setIfInBounds_toArray, List.set_cons_zero, List.set_cons_succ]
    refine wpAnyH_take (i := 4) (oi := { dst := some 36, op := Op.move (Operand.tmp 10), type := 2, pos := "l03_clock.go:80", after := #[], guard := none }) (v := ?_) rfl (by kernel_rfl) (by kernel_rfl) (by kernel_rfl) (fun _ _ _ h => h) (Or.inl ⟨by rfl, ?hy⟩) hHeld ?_
    case hy => (intro w' hSw; (try dsimp only at hSw); go_simp; try with_reducible rfl)
    simp only [Act.put, List.setIfInBounds_toArray, List.set_cons_zero, List.set_cons_succ]
    refine wpAnyH_ready (rs := [3, 7]) (by kernel_rfl) (by simp) ?_
    refine AllReadyH.cons (o := { dst := some 35, op := Op.call { callee := Callee.value (Operand.func 138), args := #[Operand.tmp 34], argTypes := #[59] }, type := 82, pos := "l03_clock.go:80", after := #[{ on := 2, ground := Ground.data }], guard := none }) rfl (fun K hK => ?_) (AllReadyH.cons (o := { dst := some 11, op := Op.alloc 166, type := 0, pos := "l03_clock.go:80", after := #[], guard := none }) rfl (fun K hK => ?_) AllReadyH.nil)
    · go_simp
      go_at_call 138; refine (PH.out _).mono ?_; rintro e w2 ⟨rfl, hb2⟩; replace HC := Lib.hid (HC.out.trans (hb2.mono HC.out.size)); (try (replace EA := Lib.hid (EA.out.below hb2)))
      go_wp2_with fail
      refine hK.out _ _ (KS.out _ HC.out) (fun hHeld => ?_)
      clear hK K
      try simp only [Act.put, List.setIfInBounds_toArray, List.set_cons_zero, List.set_cons_succ]
      refine wpAnyH_ready (rs := [5, 7]) (by kernel_rfl) (by simp) ?_
      refine AllReadyH.cons (o := { dst := some 37, op := Op.call { callee := Callee.value (Operand.tmp 35), args := #[Operand.tmp 36], argTypes := #[2] }, type := 2, pos := "l03_clock.go:80", after := #[{ on := 3, ground := Ground.data }, { on := 4, ground := Ground.data }, { on := 3, ground := Ground.chain }], guard := none }) rfl (fun K hK => ?_) (AllReadyH.cons (o := { dst := some 11, op := Op.alloc 166, type := 0, pos := "l03_clock.go:80", after := #[], guard := none }) rfl (fun K hK => ?_) AllReadyH.nil)
      · go_simp
        go_at_call 142; refine (KA.out _).mono ?_; rintro e w3 ⟨rfl, hb3⟩; replace HC := Lib.hid (HC.out.trans (hb3.mono HC.out.size)); (try (replace EA := Lib.hid (EA.out.below hb3)))
        go_wp2_with fail
        refine hK.out _ _ (KS.out _ HC.out) (fun hHeld => ?_)
        clear hK K
        try simp only [Act.put, List.setIfInBounds_toArray, List.set_cons_zero, List.set_cons_succ]
        refine wpAnyH_take (i := 6) (oi := { dst := some 38, op := Op.build 166 #[(0, Operand.tmp 33), (1, Operand.tmp 37)], type := 166, pos := "l03_clock.go:80", after := #[{ on := 1, ground := Ground.data }, { on := 5, ground := Ground.data }], guard := none }) (v := ?_) rfl (by kernel_rfl) (by kernel_rfl) (by kernel_rfl) (fun _ _ _ h => h) (Or.inl ⟨by rfl, ?hy⟩) hHeld ?_
        case hy => (intro w' hSw; (try dsimp only at hSw); go_simp; try with_reducible rfl)
        simp only [Act.put, List.setIfInBounds_toArray, List.set_cons_zero, List.set_cons_succ]
        refine wpAnyH_ready (rs := [7]) (by kernel_rfl) (by simp) ?_
        refine AllReadyH.cons (o := { dst := some 11, op := Op.alloc 166, type := 0, pos := "l03_clock.go:80", after := #[], guard := none }) rfl (fun K hK => ?_) AllReadyH.nil
        have EA := Lib.hid ((fun (V : World) (h : Below W.heap.size W V) => MadeAt.new V (.cells #[.int .i64 0, .int .i64 0] 166)) _ HC.out)
        have PA := Lib.hid HC.out.size
        replace HC := Lib.hid (HC.out.alloc HC.out.size (.cells #[.int .i64 0, .int .i64 0] 166))
        go_simp
        refine hK.out _ _ (KS.out _ HC.out) (fun hHeld => ?_)
        clear hK K
        try simp only [Act.put, List.setIfInBounds_toArray, List.set_cons_zero, List.set_cons_succ]
        generalize hVA : w3.alloc (.cells #[.int .i64 0, .int .i64 0] 166) = VA at *
        clear hVA
        refine wpAnyH_ready (rs := [8]) (by kernel_rfl) (by simp) ?_
        refine AllReadyH.cons (o := { dst := none, op := Op.store 166 (Operand.tmp 11) (Operand.tmp 38), type := 0, pos := "l03_clock.go:80", after := #[{ on := 7, ground := Ground.data }, { on := 6, ground := Ground.data }, { on := 5, ground := Ground.chain }, { on := 0, ground := Ground.phase }, { on := 1, ground := Ground.phase }, { on := 2, ground := Ground.phase }, { on := 3, ground := Ground.phase }, { on := 4, ground := Ground.phase }, { on := 5, ground := Ground.phase }, { on := 6, ground := Ground.phase }, { on := 7, ground := Ground.phase }], guard := none }) rfl (fun K hK => ?_) AllReadyH.nil
        obtain ⟨qa0, qb0⟩ := EA.out.at 0 rfl
        obtain ⟨qa1, qb1⟩ := EA.out.at 1 rfl
        go_simp
        refine hK.out _ _ (KS.out _ ((HC.out.setCell PA.out _).setCell PA.out _)) (fun hHeld => ?_)
        clear hK K
        try simp only [Act.put, List.setIfInBounds_toArray, List.set_cons_zero, List.set_cons_succ]
        refine wpAnyH_done (by kernel_rfl) ?_ _
        go_wp2_with fail
        go_meet
        case rel => exact Lib.hid ⟨OneIn2.mk PA.out EA.out, (HC.out.setCell PA.out _).setCell PA.out _⟩
      · have EA := Lib.hid ((fun (V : World) (h : Below W.heap.size W V) => MadeAt.new V (.cells #[.int .i64 0, .int .i64 0] 166)) _ HC.out)
        have PA := Lib.hid HC.out.size
        replace HC := Lib.hid (HC.out.alloc HC.out.size (.cells #[.int .i64 0, .int .i64 0] 166))
        go_simp
        refine hK.out _ _ (KS.out _ HC.out) (fun hHeld => ?_)
        clear hK K
        try simp only [Act.put, List.setIfInBounds_toArray, List.set_cons_zero, List.set_cons_succ]
        generalize hVA : w2.alloc (.cells #[.int .i64 0, .int .i64 0] 166) = VA at *
        clear hVA
        refine wpAnyH_ready (rs := [5]) (by kernel_rfl) (by simp) ?_
        refine AllReadyH.cons (o := { dst := some 37, op := Op.call { callee := Callee.value (Operand.tmp 35), args := #[Operand.tmp 36], argTypes := #[2] }, type := 2, pos := "l03_clock.go:80", after := #[{ on := 3, ground := Ground.data }, { on := 4, ground := Ground.data }, { on := 3, ground := Ground.chain }], guard := none }) rfl (fun K hK => ?_) AllReadyH.nil
        go_simp
        go_at_call 142; refine (KA.out _).mono ?_; rintro e w3 ⟨rfl, hb3⟩; replace HC := Lib.hid (HC.out.trans (hb3.mono HC.out.size)); (try (replace EA := Lib.hid (EA.out.below hb3)))
        go_wp2_with fail
        refine hK.out _ _ (KS.out _ HC.out) (fun hHeld => ?_)
        clear hK K
        try simp only [Act.put, List.setIfInBounds_toArray, List.set_cons_zero, List.set_cons_succ]
        refine wpAnyH_take (i := 6) (oi := { dst := some 38, op := Op.build 166 #[(0, Operand.tmp 33), (1, Operand.tmp 37)], type := 166, pos := "l03_clock.go:80", after := #[{ on := 1, ground := Ground.data }, { on := 5, ground := Ground.data }], guard := none }) (v := ?_) rfl (by kernel_rfl) (by kernel_rfl) (by kernel_rfl) (fun _ _ _ h => h) (Or.inl ⟨by rfl, ?hy⟩) hHeld ?_
        case hy => (intro w' hSw; (try dsimp only at hSw); go_simp; try with_reducible rfl)
        simp only [Act.put, List.setIfInBounds_toArray, List.set_cons_zero, List.set_cons_succ]
        refine wpAnyH_ready (rs := [8]) (by kernel_rfl) (by simp) ?_
        refine AllReadyH.cons (o := { dst := none, op := Op.store 166 (Operand.tmp 11) (Operand.tmp 38), type := 0, pos := "l03_clock.go:80", after := #[{ on := 7, ground := Ground.data }, { on := 6, ground := Ground.data }, { on := 5, ground := Ground.chain }, { on := 0, ground := Ground.phase }, { on := 1, ground := Ground.phase }, { on := 2, ground := Ground.phase }, { on := 3, ground := Ground.phase }, { on := 4, ground := Ground.phase }, { on := 5, ground := Ground.phase }, { on := 6, ground := Ground.phase }, { on := 7, ground := Ground.phase }], guard := none }) rfl (fun K hK => ?_) AllReadyH.nil
        obtain ⟨qa0, qb0⟩ := EA.out.at 0 rfl
        obtain ⟨qa1, qb1⟩ := EA.out.at 1 rfl
        go_simp
        refine hK.out _ _ (KS.out _ ((HC.out.setCell PA.out _).setCell PA.out _)) (fun hHeld => ?_)
        clear hK K
        try simp only [Act.put, List.setIfInBounds_toArray, List.set_cons_zero, List.set_cons_succ]
        refine wpAnyH_done (by kernel_rfl) ?_ _
        go_wp2_with fail
        go_meet
        case rel => exact Lib.hid ⟨OneIn2.mk PA.out EA.out, (HC.out.setCell PA.out _).setCell PA.out _⟩
    · have EA := Lib.hid (show MadeAt (W.alloc (.cells #[.int .i64 0, .int .i64 0] 166)).drew W.heap.size (.cells #[.int .i64 0, .int .i64 0] 166) from MadeAt.new W (.cells #[.int .i64 0, .int .i64 0] 166))
      have PA := Lib.hid (Nat.le_refl W.heap.size)
      replace HC := Lib.hid (show Below W.heap.size W (W.alloc (.cells #[.int .i64 0, .int .i64 0] 166)).drew from ((Below.refl _ _).alloc (Nat.le_refl _) (.cells #[.int .i64 0, .int .i64 0] 166)).drew)
      go_simp
      refine hK.out _ _ (KS.out _ HC.out) (fun hHeld => ?_)
      clear hK K
      try simp only [Act.put, List.setIfInBounds_toArray, List.set_cons_zero, List.set_cons_succ]
      generalize hVA : (W.alloc (.cells #[.int .i64 0, .int .i64 0] 166)).drew = VA at *
      clear hVA
      refine wpAnyH_ready (rs := [3]) (by kernel_rfl) (by simp) ?_
      refine AllReadyH.cons (o := { dst := some 35, op := Op.call { callee := Callee.value (Operand.func 138), args := #[Operand.tmp 34], argTypes := #[59] }, type := 82, pos := "l03_clock.go:80", after := #[{ on := 2, ground := Ground.data }], guard := none }) rfl (fun K hK => ?_) AllReadyH.nil
      go_simp
      go_at_call 138; refine (PH.out _).mono ?_; rintro e w2 ⟨rfl, hb2⟩; replace HC := Lib.hid (HC.out.trans (hb2.mono HC.out.size)); (try (replace EA := Lib.hid (EA.out.below hb2)))
      go_wp2_with fail
      refine hK.out _ _ (KS.out _ HC.out) (fun hHeld => ?_)
      clear hK K
      try simp only [Act.put, List.setIfInBounds_toArray, List.set_cons_zero, List.set_cons_succ]
      refine wpAnyH_ready (rs := [5]) (by kernel_rfl) (by simp) ?_
      refine AllReadyH.cons (o := { dst := some 37, op := Op.call { callee := Callee.value (Operand.tmp 35), args := #[Operand.tmp 36], argTypes := #[2] }, type := 2, pos := "l03_clock.go:80", after := #[{ on := 3, ground := Ground.data }, { on := 4, ground := Ground.data }, { on := 3, ground := Ground.chain }], guard := none }) rfl (fun K hK => ?_) AllReadyH.nil
      go_simp
      go_at_call 142; refine (KA.out _).mono ?_; rintro e w3 ⟨rfl, hb3⟩; replace HC := Lib.hid (HC.out.trans (hb3.mono HC.out.size)); (try (replace EA := Lib.hid (EA.out.below hb3)))
      go_wp2_with fail
      refine hK.out _ _ (KS.out _ HC.out) (fun hHeld => ?_)
      clear hK K
      try simp only [Act.put, List.setIfInBounds_toArray, List.set_cons_zero, List.set_cons_succ]
      refine wpAnyH_take (i := 6) (oi := { dst := some 38, op := Op.build 166 #[(0, Operand.tmp 33), (1, Operand.tmp 37)], type := 166, pos := "l03_clock.go:80", after := #[{ on := 1, ground := Ground.data }, { on := 5, ground := Ground.data }], guard := none }) (v := ?_) rfl (by kernel_rfl) (by kernel_rfl) (by kernel_rfl) (fun _ _ _ h => h) (Or.inl ⟨by rfl, ?hy⟩) hHeld ?_
      case hy => (intro w' hSw; (try dsimp only at hSw); go_simp; try with_reducible rfl)
      simp only [Act.put, List.setIfInBounds_toArray, List.set_cons_zero, List.set_cons_succ]
      refine wpAnyH_ready (rs := [8]) (by kernel_rfl) (by simp) ?_
      refine AllReadyH.cons (o := { dst := none, op := Op.store 166 (Operand.tmp 11) (Operand.tmp 38), type := 0, pos := "l03_clock.go:80", after := #[{ on := 7, ground := Ground.data }, { on := 6, ground := Ground.data }, { on := 5, ground := Ground.chain }, { on := 0, ground := Ground.phase }, { on := 1, ground := Ground.phase }, { on := 2, ground := Ground.phase }, { on := 3, ground := Ground.phase }, { on := 4, ground := Ground.phase }, { on := 5, ground := Ground.phase }, { on := 6, ground := Ground.phase }, { on := 7, ground := Ground.phase }], guard := none }) rfl (fun K hK => ?_) AllReadyH.nil
      obtain ⟨qa0, qb0⟩ := EA.out.at 0 rfl
      obtain ⟨qa1, qb1⟩ := EA.out.at 1 rfl
      go_simp
      refine hK.out _ _ (KS.out _ ((HC.out.setCell PA.out _).setCell PA.out _)) (fun hHeld => ?_)
      clear hK K
      try simp only [Act.put, List.setIfInBounds_toArray, List.set_cons_zero, List.set_cons_succ]
      refine wpAnyH_done (by kernel_rfl) ?_ _
      go_wp2_with fail
      go_meet
      case rel => exact Lib.hid ⟨OneIn2.mk PA.out EA.out, (HC.out.setCell PA.out _).setCell PA.out _⟩
  obtain ⟨⟨b11, rfl, hb11, hbl11, bX⟩, hbc⟩ := hcut.out
  clear hcut PH KA
  have BR := Lib.hid (And.intro bR bS)
  have BC0 := Lib.hid bC
  have HBC := Lib.hid hbc
  have FB1 := Lib.hid FB.out
  have bC2 := Lib.hid (bC.below hbc hlt0)
  have hzc := hbc.size
  have hne1 : ¬ b11 = w.heap.size := by omega
  have hne2 : ¬ w.heap.size = b11 := by omega
  clear bC bL bR bS hbc FB
  obtain ⟨xC0, yC0⟩ := bC2.out 0 _ rfl
  obtain ⟨xC1, yC1⟩ := bC2.out 1 _ rfl
  obtain ⟨xC2, yC2⟩ := bC2.out 2 _ rfl
  obtain ⟨xC3, yC3⟩ := bC2.out 3 _ rfl
  obtain ⟨xC4, yC4⟩ := bC2.out 4 _ rfl
  obtain ⟨xX0, yX0⟩ := bX 0 _ rfl
  obtain ⟨xX1, yX1⟩ := bX 1 _ rfl
  go_wp2_with fail
  refine (BD.out _).mono ?_
  rintro e w5 ⟨rfl, hb5⟩
  have HB5 := HBC.out.trans (hb5.mono HBC.out.size)
  obtain ⟨xR0, yR0⟩ := BR.out.1.below HB5 hlt2 0 _ rfl
  obtain ⟨xR1, yR1⟩ := BR.out.1.below HB5 hlt2 1 _ rfl
  obtain ⟨xS0, yS0⟩ := BR.out.2.below HB5 hlt3 0 _ rfl
  obtain ⟨xS1, yS1⟩ := BR.out.2.below HB5 hlt3 1 _ rfl
  have F5 := Lib.hid (FB1.out.trans (HB5.mono (by omega)))
  clear hb5 HB5
  go_wp2
  refine bodyPost_ret (v := .tuple #[.agg #[.int .i64 N, .int .i64 E], .agg #[.int .i64 (clampI P (l * 64) (h * 64)), .int .i64 (clampI (E - E.tdiv p) (-(clampI P (l * 64) (h * 64))) (clampI P (l * 64) (h * 64)))]]) (by simp [results, Try.results127, go_sem, xR0, yR0, xR1, yR1, xS0, yS0, xS1, yS1]) rfl ⟨rfl, ?_⟩
  exact (((F5.out.setCell (by simp <;> omega) _).setCell (by simp <;> omega) _).setCell (by simp <;> omega) _).setCell (by simp <;> omega) _
set_option maxHeartbeats 8000000 in
theorem step_3 (c l h p s P o gap N E Q : Int) (w : World) (hp0 : ¬ p = 0) (hs0 : ¬ s = 0) (f1 : 2 ≤ l ∧ l ≤ 400) (f2 : 2 ≤ h ∧ h ≤ 400) (f3 : 0 ≤ p ∧ p ≤ 64) (f4 : 0 ≤ s ∧ s ≤ 64) (p1 : 128 ≤ P) (p2 : P ≤ 25600) (o1 : -25600 ≤ o) (o2 : o ≤ 25600) (g1 : 1 ≤ gap) (g2 : gap ≤ 2000000)
    (hN : stN P o gap = N) (hE : stE P o gap = E) :
    Calls Try.prog 127 #[.agg #[.int .i64 c, .int .i64 l, .int .i64 h, .int .i64 p, .int .i64 s], .agg #[.int .i64 P, .int .i64 o], .int .i64 gap] w fun e w' => e = .returned (.tuple #[.agg #[.int .i64 N, .int .i64 E], .agg #[.int .i64 (stPer l h s P o gap), .int .i64 (stOff l h p s P o gap)]]) ∧ Below w.heap.size w w' := by
  obtain ⟨n1, n2, e1, e2, m1, m2⟩ := st_bd p1 p2 o1 o2 g1 g2
  have PH := Lib.hid (fun w => phase_any c l h p s w)
  have hpb := stPer0_bd (sp := s) f4.1 n1 p1 p2 e1 e2
  have hob := stOff0_bd (ph := p) f3.1 e1 e2
  have BD := Lib.hid (fun w => bounded_any c l h p s (stPer0 s P (stN P o gap) (stE P o gap)) (stOff0 p (stE P o gap)) w f1.1 f1.2 f2.1 f2.2)
  have HV := Lib.hid (show stPer l h s P o gap = clampI (stPer0 s P (stN P o gap) (stE P o gap)) (l * 64) (h * 64) from rfl)
  have HW := Lib.hid (show stOff l h p s P o gap = clampI (stOff0 p (stE P o gap)) (-(stPer l h s P o gap)) (stPer l h s P o gap) from rfl)
  rw [HW.out, HV.out]
  rw [hN, hE] at BD hpb ⊢
  rw [hE] at hob
  rw [hN] at n1 n2 m1 m2
  rw [hE] at e1 e2
  clear HV HW
  have hp2 : P.tdiv 2 = P / 2 := Int.tdiv_eq_ediv_of_nonneg (by omega)
  have HQB := Lib.hid (stQ_bd p1 p2 o1 o2 g1 g2)
  have hEE := hE
  unfold stE at hEE
  rw [hN] at hEE
  unfold stN at hN
  rw [hp2] at hN HQB
  obtain ⟨X, hX⟩ : ∃ X, gap * 64 + o + P / 2 = X := ⟨_, rfl⟩
  rw [hX] at hN HQB
  obtain ⟨q, hq⟩ : ∃ q, X.tdiv P = q := ⟨_, rfl⟩
  rw [hq] at hN HQB
  have hq1 := HQB.out
  have hNif : (if q < 1 then 1 else q) = N := by rw [← hN]; split <;> omega
  obtain ⟨M, hM⟩ : ∃ M, N * P = M := ⟨_, rfl⟩
  rw [hM] at hEE m1 m2
  have hwM : wrap64 M = M := by unfold wrap64; omega
  have hwE : wrap64 (gap * 64 + o - M) = E := by unfold wrap64; omega
  have hP0 : ¬ P = 0 := by omega
  have hwq : wrap64 q = q := by unfold wrap64; omega
  have hwq2 : IntKind.i64.wrap q = q := IntWalk.i64_in _ (by omega)
  have HX := Lib.hid (And.intro hX (And.intro hq (And.intro hN hE)))
  have HNN := Lib.hid (And.intro hNif (And.intro hM (And.intro hwM hwE)))
  clear hN hE hEE hNif hM hwM hwE
  have hpf : phaseF c l h p s = .func (.func 142) #[.agg #[.int .i64 c, .int .i64 l, .int .i64 h, .int .i64 p, .int .i64 s]] #[] := by unfold phaseF; rw [if_neg hp0]
  rw [hpf] at PH
  have KA := Lib.hid (fun w => keepRest_any c l h p s E w (by omega) (by omega) (by omega))
  have HO := Lib.hid (show stOff0 p E = E - E.tdiv p by unfold stOff0; rw [if_neg hp0])
  clear hpf
  have HPP := Lib.hid (show stPer0 s P N E = P + E.tdiv (N * s) by unfold stPer0; rw [if_neg hs0])
  have hs1 : (0 : Int) < s := by omega
  have hns : 1 ≤ N * s ∧ N * s ≤ 200000000 := by
    have h1 := Int.mul_le_mul n1 (show 1 ≤ s by omega) (by omega) (by omega)
    have h2 := Int.mul_le_mul n2 (show s ≤ 64 by omega) (by omega) (by omega)
    omega
  have hpb2 := hpb
  unfold stPer0 at hpb2
  rw [if_neg hs0] at hpb2
  clear hp0 hs0
  rw [HO.out, HPP.out] at BD ⊢
  go_enter Try.func127, Try.ntmps127
  go_upto_region 4 with (fail)
  simp only [HNN.out.1, HNN.out.2.1, HNN.out.2.2.1, HNN.out.2.2.2]
  have bC : BoxF ((((w.alloc (.cells #[.int .i64 c, .int .i64 l, .int .i64 h, .int .i64 p, .int .i64 s] 59)).alloc (.cells #[.int .i64 P, .int .i64 o] 166)).alloc (.cells #[.int .i64 0, .int .i64 0] 127)).alloc (.cells #[.int .i64 0, .int .i64 0] 166)) w.heap.size #[.int .i64 c, .int .i64 l, .int .i64 h, .int .i64 p, .int .i64 s] := boxF5 (by simp [go_sem]) (by simp [go_sem]) (by simp [go_sem]) (by simp [go_sem]) (by simp [go_sem])
  have bL : BoxF ((((w.alloc (.cells #[.int .i64 c, .int .i64 l, .int .i64 h, .int .i64 p, .int .i64 s] 59)).alloc (.cells #[.int .i64 P, .int .i64 o] 166)).alloc (.cells #[.int .i64 0, .int .i64 0] 127)).alloc (.cells #[.int .i64 0, .int .i64 0] 166)) (w.heap.size + 1) #[.int .i64 P, .int .i64 o] := boxF2 (by simp [go_sem]) (by simp [go_sem])
  have bR : BoxF ((((w.alloc (.cells #[.int .i64 c, .int .i64 l, .int .i64 h, .int .i64 p, .int .i64 s] 59)).alloc (.cells #[.int .i64 P, .int .i64 o] 166)).alloc (.cells #[.int .i64 0, .int .i64 0] 127)).alloc (.cells #[.int .i64 0, .int .i64 0] 166)) (w.heap.size + 1 + 1) #[.int .i64 0, .int .i64 0] := boxF2 (by simp [go_sem]) (by simp [go_sem])
  have bS : BoxF ((((w.alloc (.cells #[.int .i64 c, .int .i64 l, .int .i64 h, .int .i64 p, .int .i64 s] 59)).alloc (.cells #[.int .i64 P, .int .i64 o] 166)).alloc (.cells #[.int .i64 0, .int .i64 0] 127)).alloc (.cells #[.int .i64 0, .int .i64 0] 166)) (w.heap.size + 1 + 1 + 1) #[.int .i64 0, .int .i64 0] := boxF2 (by simp [go_sem]) (by simp [go_sem])
  have FB := Lib.hid (show Below w.heap.size w ((((w.alloc (.cells #[.int .i64 c, .int .i64 l, .int .i64 h, .int .i64 p, .int .i64 s] 59)).alloc (.cells #[.int .i64 P, .int .i64 o] 166)).alloc (.cells #[.int .i64 0, .int .i64 0] 127)).alloc (.cells #[.int .i64 0, .int .i64 0] 166)) by go_grown)
  have hlt3 : w.heap.size + 1 + 1 + 1 < ((((w.alloc (.cells #[.int .i64 c, .int .i64 l, .int .i64 h, .int .i64 p, .int .i64 s] 59)).alloc (.cells #[.int .i64 P, .int .i64 o] 166)).alloc (.cells #[.int .i64 0, .int .i64 0] 127)).alloc (.cells #[.int .i64 0, .int .i64 0] 166)).heap.size := by simp
  generalize ((((w.alloc (.cells #[.int .i64 c, .int .i64 l, .int .i64 h, .int .i64 p, .int .i64 s] 59)).alloc (.cells #[.int .i64 P, .int .i64 o] 166)).alloc (.cells #[.int .i64 0, .int .i64 0] 127)).alloc (.cells #[.int .i64 0, .int .i64 0] 166)) = W at *
  have hlt2 : w.heap.size + 1 + 1 < W.heap.size := by omega
  have hlt1 : w.heap.size + 1 < W.heap.size := by omega
  have hlt0 : w.heap.size < W.heap.size := by omega
  go_cut [11] (fun v11 wx => Hid (OneIn2 (.int .i64 P) (.int .i64 (E - E.tdiv p)) W wx v11 ∧ Below W.heap.size W wx))
  case first =>
    have BC := Lib.hid (fun w' (hb : Below W.heap.size W w') => (bC.below hb hlt0).box)
    have BL := Lib.hid (fun w' (hb : Below W.heap.size W w') => (bL.below hb hlt1).box)
    have KS := Lib.hid (fun w' (hb : Below W.heap.size W w') => (show w'.cell? ⟨w.heap.size, 0, none⟩ = some (.int .i64 c) ∧ w'.cell? ⟨w.heap.size, 1, none⟩ = some (.int .i64 l) ∧ w'.cell? ⟨w.heap.size, 2, none⟩ = some (.int .i64 h) ∧ w'.cell? ⟨w.heap.size, 3, none⟩ = some (.int .i64 p) ∧ w'.cell? ⟨w.heap.size, 4, none⟩ = some (.int .i64 s) ∧ w'.cell? ⟨w.heap.size + 1, 0, none⟩ = some (.int .i64 P) ∧ w'.cell? ⟨w.heap.size + 1, 1, none⟩ = some (.int .i64 o) from ⟨BC.out w' hb 0 _ rfl, BC.out w' hb 1 _ rfl, BC.out w' hb 2 _ rfl, BC.out w' hb 3 _ rfl, BC.out w' hb 4 _ rfl, BL.out w' hb 0 _ rfl, BL.out w' hb 1 _ rfl⟩))
    have HC := Lib.hid (show Below W.heap.size W W.drew from (Below.refl _ _).drew)
    clear bC bL bR bS
    refine wp_region_held_drew (S := (fun w' => w'.cell? ⟨w.heap.size, 0, none⟩ = some (.int .i64 c) ∧ w'.cell? ⟨w.heap.size, 1, none⟩ = some (.int .i64 l) ∧ w'.cell? ⟨w.heap.size, 2, none⟩ = some (.int .i64 h) ∧ w'.cell? ⟨w.heap.size, 3, none⟩ = some (.int .i64 p) ∧ w'.cell? ⟨w.heap.size, 4, none⟩ = some (.int .i64 s) ∧ w'.cell? ⟨w.heap.size + 1, 0, none⟩ = some (.int .i64 P) ∧ w'.cell? ⟨w.heap.size + 1, 1, none⟩ = some (.int .i64 o))) (by kernel_rfl) (KS.out _ HC.out) (fun hHeld => ?_)
    refine wpAnyH_take (i := 0) (oi := { dst := some 32, op := Op.fieldAddr 166 (Operand.tmp 4) 0, type := 0, pos := "l03_clock.go:80", after := #[], guard := none }) (v := ?_) rfl (by kernel_rfl) (by kernel_rfl) (by kernel_rfl) (fun _ _ _ h => h) (Or.inl ⟨by rfl, ?hy⟩) hHeld ?_
    case hy => (intro w' hSw; (try dsimp only at hSw); go_simp; try with_reducible rfl)
    simp only [Act.put, List.setIfInBounds_toArray, List.set_cons_zero, List.set_cons_succ]
    refine wpAnyH_take (i := 1) (oi := { dst := some 33, op := Op.load 2 (Operand.tmp 32), type := 2, pos := "l03_clock.go:80", after := #[{ on := 0, ground := Ground.data }], guard := none }) (v := ?_) rfl (by kernel_rfl) (by kernel_rfl) (by kernel_rfl) (fun _ _ _ h => h) (Or.inl ⟨by rfl, ?hy⟩) hHeld ?_
    case hy => (intro w' hSw; (try dsimp only at hSw); go_simp; try with_reducible rfl)
    simp only [Act.put, List.setIfInBounds_toArray, List.set_cons_zero, List.set_cons_succ]
    refine wpAnyH_take (i := 2) (oi := { dst := some 34, op := Op.load 59 (Operand.tmp 3), type := 59, pos := "l03_clock.go:80", after := #[], guard := none }) (v := ?_) rfl (by kernel_rfl) (by kernel_rfl) (by kernel_rfl) (fun _ _ _ h => h) (Or.inl ⟨by rfl, ?hy⟩) hHeld ?_
    case hy => (intro w' hSw; (try dsimp only at hSw); go_simp; try with_reducible rfl)
    simp only [Act.put, List.setIfInBounds_toArray, List.set_cons_zero, List.set_cons_succ]
    refine wpAnyH_take (i := 4) (oi := { dst := some 36, op := Op.move (Operand.tmp 10), type := 2, pos := "l03_clock.go:80", after := #[], guard := none }) (v := ?_) rfl (by kernel_rfl) (by kernel_rfl) (by kernel_rfl) (fun _ _ _ h => h) (Or.inl ⟨by rfl, ?hy⟩) hHeld ?_
    case hy => (intro w' hSw; (try dsimp only at hSw); go_simp; try with_reducible rfl)
    simp only [Act.put, List.setIfInBounds_toArray, List.set_cons_zero, List.set_cons_succ]
    refine wpAnyH_ready (rs := [3, 7]) (by kernel_rfl) (by simp) ?_
    refine AllReadyH.cons (o := { dst := some 35, op := Op.call { callee := Callee.value (Operand.func 138), args := #[Operand.tmp 34], argTypes := #[59] }, type := 82, pos := "l03_clock.go:80", after := #[{ on := 2, ground := Ground.data }], guard := none }) rfl (fun K hK => ?_) (AllReadyH.cons (o := { dst := some 11, op := Op.alloc 166, type := 0, pos := "l03_clock.go:80", after := #[], guard := none }) rfl (fun K hK => ?_) AllReadyH.nil)
    · go_simp
      go_at_call 138; refine (PH.out _).mono ?_; rintro e w2 ⟨rfl, hb2⟩; replace HC := Lib.hid (HC.out.trans (hb2.mono HC.out.size)); (try (replace EA := Lib.hid (EA.out.below hb2)))
      go_wp2_with fail
      refine hK.out _ _ (KS.out _ HC.out) (fun hHeld => ?_)
      clear hK K
      try simp only [Act.put, List.setIfInBounds_toArray, List.set_cons_zero, List.set_cons_succ]
      refine wpAnyH_ready (rs := [5, 7]) (by kernel_rfl) (by simp) ?_
      refine AllReadyH.cons (o := { dst := some 37, op := Op.call { callee := Callee.value (Operand.tmp 35), args := #[Operand.tmp 36], argTypes := #[2] }, type := 2, pos := "l03_clock.go:80", after := #[{ on := 3, ground := Ground.data }, { on := 4, ground := Ground.data }, { on := 3, ground := Ground.chain }], guard := none }) rfl (fun K hK => ?_) (AllReadyH.cons (o := { dst := some 11, op := Op.alloc 166, type := 0, pos := "l03_clock.go:80", after := #[], guard := none }) rfl (fun K hK => ?_) AllReadyH.nil)
      · go_simp
        go_at_call 142; refine (KA.out _).mono ?_; rintro e w3 ⟨rfl, hb3⟩; replace HC := Lib.hid (HC.out.trans (hb3.mono HC.out.size)); (try (replace EA := Lib.hid (EA.out.below hb3)))
        go_wp2_with fail
        refine hK.out _ _ (KS.out _ HC.out) (fun hHeld => ?_)
        clear hK K
        try simp only [Act.put, List.setIfInBounds_toArray, List.set_cons_zero, List.set_cons_succ]
        refine wpAnyH_take (i := 6) (oi := { dst := some 38, op := Op.build 166 #[(0, Operand.tmp 33), (1, Operand.tmp 37)], type := 166, pos := "l03_clock.go:80", after := #[{ on := 1, ground := Ground.data }, { on := 5, ground := Ground.data }], guard := none }) (v := ?_) rfl (by kernel_rfl) (by kernel_rfl) (by kernel_rfl) (fun _ _ _ h => h) (Or.inl ⟨by rfl, ?hy⟩) hHeld ?_
        case hy => (intro w' hSw; (try dsimp only at hSw); go_simp; try with_reducible rfl)
        simp only [Act.put, List.setIfInBounds_toArray, List.set_cons_zero, List.set_cons_succ]
        refine wpAnyH_ready (rs := [7]) (by kernel_rfl) (by simp) ?_
        refine AllReadyH.cons (o := { dst := some 11, op := Op.alloc 166, type := 0, pos := "l03_clock.go:80", after := #[], guard := none }) rfl (fun K hK => ?_) AllReadyH.nil
        have EA := Lib.hid ((fun (V : World) (h : Below W.heap.size W V) => MadeAt.new V (.cells #[.int .i64 0, .int .i64 0] 166)) _ HC.out)
        have PA := Lib.hid HC.out.size
        replace HC := Lib.hid (HC.out.alloc HC.out.size (.cells #[.int .i64 0, .int .i64 0] 166))
        go_simp
        refine hK.out _ _ (KS.out _ HC.out) (fun hHeld => ?_)
        clear hK K
        try simp only [Act.put, List.setIfInBounds_toArray, List.set_cons_zero, List.set_cons_succ]
        generalize hVA : w3.alloc (.cells #[.int .i64 0, .int .i64 0] 166) = VA at *
        clear hVA
        refine wpAnyH_ready (rs := [8]) (by kernel_rfl) (by simp) ?_
        refine AllReadyH.cons (o := { dst := none, op := Op.store 166 (Operand.tmp 11) (Operand.tmp 38), type := 0, pos := "l03_clock.go:80", after := #[{ on := 7, ground := Ground.data }, { on := 6, ground := Ground.data }, { on := 5, ground := Ground.chain }, { on := 0, ground := Ground.phase }, { on := 1, ground := Ground.phase }, { on := 2, ground := Ground.phase }, { on := 3, ground := Ground.phase }, { on := 4, ground := Ground.phase }, { on := 5, ground := Ground.phase }, { on := 6, ground := Ground.phase }, { on := 7, ground := Ground.phase }], guard := none }) rfl (fun K hK => ?_) AllReadyH.nil
        obtain ⟨qa0, qb0⟩ := EA.out.at 0 rfl
        obtain ⟨qa1, qb1⟩ := EA.out.at 1 rfl
        go_simp
        refine hK.out _ _ (KS.out _ ((HC.out.setCell PA.out _).setCell PA.out _)) (fun hHeld => ?_)
        clear hK K
        try simp only [Act.put, List.setIfInBounds_toArray, List.set_cons_zero, List.set_cons_succ]
        refine wpAnyH_done (by kernel_rfl) ?_ _
        go_wp2_with fail
        go_meet
        case rel => exact Lib.hid ⟨OneIn2.mk PA.out EA.out, (HC.out.setCell PA.out _).setCell PA.out _⟩
      · have EA := Lib.hid ((fun (V : World) (h : Below W.heap.size W V) => MadeAt.new V (.cells #[.int .i64 0, .int .i64 0] 166)) _ HC.out)
        have PA := Lib.hid HC.out.size
        replace HC := Lib.hid (HC.out.alloc HC.out.size (.cells #[.int .i64 0, .int .i64 0] 166))
        go_simp
        refine hK.out _ _ (KS.out _ HC.out) (fun hHeld => ?_)
        clear hK K
        try simp only [Act.put, List.setIfInBounds_toArray, List.set_cons_zero, List.set_cons_succ]
        generalize hVA : w2.alloc (.cells #[.int .i64 0, .int .i64 0] 166) = VA at *
        clear hVA
        refine wpAnyH_ready (rs := [5]) (by kernel_rfl) (by simp) ?_
        refine AllReadyH.cons (o := { dst := some 37, op := Op.call { callee := Callee.value (Operand.tmp 35), args := #[Operand.tmp 36], argTypes := #[2] }, type := 2, pos := "l03_clock.go:80", after := #[{ on := 3, ground := Ground.data }, { on := 4, ground := Ground.data }, { on := 3, ground := Ground.chain }], guard := none }) rfl (fun K hK => ?_) AllReadyH.nil
        go_simp
        go_at_call 142; refine (KA.out _).mono ?_; rintro e w3 ⟨rfl, hb3⟩; replace HC := Lib.hid (HC.out.trans (hb3.mono HC.out.size)); (try (replace EA := Lib.hid (EA.out.below hb3)))
        go_wp2_with fail
        refine hK.out _ _ (KS.out _ HC.out) (fun hHeld => ?_)
        clear hK K
        try simp only [Act.put, List.setIfInBounds_toArray, List.set_cons_zero, List.set_cons_succ]
        refine wpAnyH_take (i := 6) (oi := { dst := some 38, op := Op.build 166 #[(0, Operand.tmp 33), (1, Operand.tmp 37)], type := 166, pos := "l03_clock.go:80", after := #[{ on := 1, ground := Ground.data }, { on := 5, ground := Ground.data }], guard := none }) (v := ?_) rfl (by kernel_rfl) (by kernel_rfl) (by kernel_rfl) (fun _ _ _ h => h) (Or.inl ⟨by rfl, ?hy⟩) hHeld ?_
        case hy => (intro w' hSw; (try dsimp only at hSw); go_simp; try with_reducible rfl)
        simp only [Act.put, List.setIfInBounds_toArray, List.set_cons_zero, List.set_cons_succ]
        refine wpAnyH_ready (rs := [8]) (by kernel_rfl) (by simp) ?_
        refine AllReadyH.cons (o := { dst := none, op := Op.store 166 (Operand.tmp 11) (Operand.tmp 38), type := 0, pos := "l03_clock.go:80", after := #[{ on := 7, ground := Ground.data }, { on := 6, ground := Ground.data }, { on := 5, ground := Ground.chain }, { on := 0, ground := Ground.phase }, { on := 1, ground := Ground.phase }, { on := 2, ground := Ground.phase }, { on := 3, ground := Ground.phase }, { on := 4, ground := Ground.phase }, { on := 5, ground := Ground.phase }, { on := 6, ground := Ground.phase }, { on := 7, ground := Ground.phase }], guard := none }) rfl (fun K hK => ?_) AllReadyH.nil
        obtain ⟨qa0, qb0⟩ := EA.out.at 0 rfl
        obtain ⟨qa1, qb1⟩ := EA.out.at 1 rfl
        go_simp
        refine hK.out _ _ (KS.out _ ((HC.out.setCell PA.out _).setCell PA.out _)) (fun hHeld => ?_)
        clear hK K
        try simp only [Act.put, List.setIfInBounds_toArray, List.set_cons_zero, List.set_cons_succ]
        refine wpAnyH_done (by kernel_rfl) ?_ _
        go_wp2_with fail
        go_meet
        case rel => exact Lib.hid ⟨OneIn2.mk PA.out EA.out, (HC.out.setCell PA.out _).setCell PA.out _⟩
    · have EA := Lib.hid (show MadeAt (W.alloc (.cells #[.int .i64 0, .int .i64 0] 166)).drew W.heap.size (.cells #[.int .i64 0, .int .i64 0] 166) from MadeAt.new W (.cells #[.int .i64 0, .int .i64 0] 166))
      have PA := Lib.hid (Nat.le_refl W.heap.size)
      replace HC := Lib.hid (show Below W.heap.size W (W.alloc (.cells #[.int .i64 0, .int .i64 0] 166)).drew from ((Below.refl _ _).alloc (Nat.le_refl _) (.cells #[.int .i64 0, .int .i64 0] 166)).drew)
      go_simp
      refine hK.out _ _ (KS.out _ HC.out) (fun hHeld => ?_)
      clear hK K
      try simp only [Act.put, List.setIfInBounds_toArray, List.set_cons_zero, List.set_cons_succ]
      generalize hVA : (W.alloc (.cells #[.int .i64 0, .int .i64 0] 166)).drew = VA at *
      clear hVA
      refine wpAnyH_ready (rs := [3]) (by kernel_rfl) (by simp) ?_
      refine AllReadyH.cons (o := { dst := some 35, op := Op.call { callee := Callee.value (Operand.func 138), args := #[Operand.tmp 34], argTypes := #[59] }, type := 82, pos := "l03_clock.go:80", after := #[{ on := 2, ground := Ground.data }], guard := none }) rfl (fun K hK => ?_) AllReadyH.nil
      go_simp
      go_at_call 138; refine (PH.out _).mono ?_; rintro e w2 ⟨rfl, hb2⟩; replace HC := Lib.hid (HC.out.trans (hb2.mono HC.out.size)); (try (replace EA := Lib.hid (EA.out.below hb2)))
      go_wp2_with fail
      refine hK.out _ _ (KS.out _ HC.out) (fun hHeld => ?_)
      clear hK K
      try simp only [Act.put, List.setIfInBounds_toArray, List.set_cons_zero, List.set_cons_succ]
      refine wpAnyH_ready (rs := [5]) (by kernel_rfl) (by simp) ?_
      refine AllReadyH.cons (o := { dst := some 37, op := Op.call { callee := Callee.value (Operand.tmp 35), args := #[Operand.tmp 36], argTypes := #[2] }, type := 2, pos := "l03_clock.go:80", after := #[{ on := 3, ground := Ground.data }, { on := 4, ground := Ground.data }, { on := 3, ground := Ground.chain }], guard := none }) rfl (fun K hK => ?_) AllReadyH.nil
      go_simp
      go_at_call 142; refine (KA.out _).mono ?_; rintro e w3 ⟨rfl, hb3⟩; replace HC := Lib.hid (HC.out.trans (hb3.mono HC.out.size)); (try (replace EA := Lib.hid (EA.out.below hb3)))
      go_wp2_with fail
      refine hK.out _ _ (KS.out _ HC.out) (fun hHeld => ?_)
      clear hK K
      try simp only [Act.put, List.setIfInBounds_toArray, List.set_cons_zero, List.set_cons_succ]
      refine wpAnyH_take (i := 6) (oi := { dst := some 38, op := Op.build 166 #[(0, Operand.tmp 33), (1, Operand.tmp 37)], type := 166, pos := "l03_clock.go:80", after := #[{ on := 1, ground := Ground.data }, { on := 5, ground := Ground.data }], guard := none }) (v := ?_) rfl (by kernel_rfl) (by kernel_rfl) (by kernel_rfl) (fun _ _ _ h => h) (Or.inl ⟨by rfl, ?hy⟩) hHeld ?_
      case hy => (intro w' hSw; (try dsimp only at hSw); go_simp; try with_reducible rfl)
      simp only [Act.put, List.setIfInBounds_toArray, List.set_cons_zero, List.set_cons_succ]
      refine wpAnyH_ready (rs := [8]) (by kernel_rfl) (by simp) ?_
      refine AllReadyH.cons (o := { dst := none, op := Op.store 166 (Operand.tmp 11) (Operand.tmp 38), type := 0, pos := "l03_clock.go:80", after := #[{ on := 7, ground := Ground.data }, { on := 6, ground := Ground.data }, { on := 5, ground := Ground.chain }, { on := 0, ground := Ground.phase }, { on := 1, ground := Ground.phase }, { on := 2, ground := Ground.phase }, { on := 3, ground := Ground.phase }, { on := 4, ground := Ground.phase }, { on := 5, ground := Ground.phase }, { on := 6, ground := Ground.phase }, { on := 7, ground := Ground.phase }], guard := none }) rfl (fun K hK => ?_) AllReadyH.nil
      obtain ⟨qa0, qb0⟩ := EA.out.at 0 rfl
      obtain ⟨qa1, qb1⟩ := EA.out.at 1 rfl
      go_simp
      refine hK.out _ _ (KS.out _ ((HC.out.setCell PA.out _).setCell PA.out _)) (fun hHeld => ?_)
      clear hK K
      try simp only [Act.put, List.setIfInBounds_toArray, List.set_cons_zero, List.set_cons_succ]
      refine wpAnyH_done (by kernel_rfl) ?_ _
      go_wp2_with fail
      go_meet
      case rel => exact Lib.hid ⟨OneIn2.mk PA.out EA.out, (HC.out.setCell PA.out _).setCell PA.out _⟩
  obtain ⟨⟨b11, rfl, hb11, hbl11, bX⟩, hbc⟩ := hcut.out
  clear hcut PH KA
  have BR := Lib.hid (And.intro bR bS)
  have BC0 := Lib.hid bC
  have HBC := Lib.hid hbc
  have FB1 := Lib.hid FB.out
  have bC2 := Lib.hid (bC.below hbc hlt0)
  have hzc := hbc.size
  have hne1 : ¬ b11 = w.heap.size := by omega
  have hne2 : ¬ w.heap.size = b11 := by omega
  clear bC bL bR bS hbc FB
  obtain ⟨xC0, yC0⟩ := bC2.out 0 _ rfl
  obtain ⟨xC1, yC1⟩ := bC2.out 1 _ rfl
  obtain ⟨xC2, yC2⟩ := bC2.out 2 _ rfl
  obtain ⟨xC3, yC3⟩ := bC2.out 3 _ rfl
  obtain ⟨xC4, yC4⟩ := bC2.out 4 _ rfl
  obtain ⟨xX0, yX0⟩ := bX 0 _ rfl
  obtain ⟨xX1, yX1⟩ := bX 1 _ rfl
  obtain ⟨NS, hNS⟩ : ∃ y, N * s = y := ⟨_, rfl⟩
  rw [hNS] at hns hpb2 BD
  obtain ⟨D, hD⟩ : ∃ y, E.tdiv NS = y := ⟨_, rfl⟩
  have hDb := tdiv_bd hns.1 (e := E) (by omega) (by omega)
  rw [hD] at hpb2 BD hDb
  have HNS := Lib.hid (And.intro hNS hD)
  have hwN : wrap64 NS = NS := by unfold wrap64; omega
  have hwD : wrap64 D = D := by unfold wrap64; omega
  have hwD2 : IntKind.i64.wrap D = D := IntWalk.i64_in _ (by omega)
  have hNS0 : ¬ NS = 0 := by omega
  go_wp2
  go_region
  have HB6 := Lib.hid (show Below W.heap.size W (wc.setCell ⟨b11, 0, none⟩ (.int .i64 (P + D))).drew from (HBC.out.setCell hb11 _).drew)
  have X6 : BoxF (wc.setCell ⟨b11, 0, none⟩ (.int .i64 (P + D))).drew b11 #[.int .i64 (P + D), .int .i64 (E - E.tdiv p)] := boxF2 (by simp [go_sem, xX0, yX0]) (by simp [go_sem, xX1, yX1])
  have C6 := Lib.hid (BC0.out.below HB6.out hlt0)
  generalize (wc.setCell ⟨b11, 0, none⟩ (.int .i64 (P + D))).drew = w6 at *
  clear xC0 yC0 xC1 yC1 xC2 yC2 xC3 yC3 xC4 yC4 xX0 yX0 xX1 yX1
  obtain ⟨xX0, yX0⟩ := X6 0 _ rfl
  obtain ⟨xX1, yX1⟩ := X6 1 _ rfl
  obtain ⟨xC0, yC0⟩ := C6.out 0 _ rfl
  obtain ⟨xC1, yC1⟩ := C6.out 1 _ rfl
  obtain ⟨xC2, yC2⟩ := C6.out 2 _ rfl
  obtain ⟨xC3, yC3⟩ := C6.out 3 _ rfl
  obtain ⟨xC4, yC4⟩ := C6.out 4 _ rfl
  go_wp2_with fail
  refine (BD.out _).mono ?_
  rintro e w5 ⟨rfl, hb5⟩
  have HB5 := HB6.out.trans (hb5.mono HB6.out.size)
  obtain ⟨xR0, yR0⟩ := BR.out.1.below HB5 hlt2 0 _ rfl
  obtain ⟨xR1, yR1⟩ := BR.out.1.below HB5 hlt2 1 _ rfl
  obtain ⟨xS0, yS0⟩ := BR.out.2.below HB5 hlt3 0 _ rfl
  obtain ⟨xS1, yS1⟩ := BR.out.2.below HB5 hlt3 1 _ rfl
  have F5 := Lib.hid (FB1.out.trans (HB5.mono (by omega)))
  clear hb5 HB5
  go_wp2
  refine bodyPost_ret (v := .tuple #[.agg #[.int .i64 N, .int .i64 E], .agg #[.int .i64 (clampI (P + D) (l * 64) (h * 64)), .int .i64 (clampI (E - E.tdiv p) (-(clampI (P + D) (l * 64) (h * 64))) (clampI (P + D) (l * 64) (h * 64)))]]) (by simp [results, Try.results127, go_sem, xR0, yR0, xR1, yR1, xS0, yS0, xS1, yS1]) rfl ⟨by rw [HNS.out.1, HNS.out.2], ?_⟩
  exact (((F5.out.setCell (by simp <;> omega) _).setCell (by simp <;> omega) _).setCell (by simp <;> omega) _).setCell (by simp <;> omega) _
theorem step_any (c l h p s P o gap : Int) (w : World) (f1 : 2 ≤ l ∧ l ≤ 400) (f2 : 2 ≤ h ∧ h ≤ 400) (f3 : 0 ≤ p ∧ p ≤ 64) (f4 : 0 ≤ s ∧ s ≤ 64) (p1 : 128 ≤ P) (p2 : P ≤ 25600) (o1 : -25600 ≤ o) (o2 : o ≤ 25600) (g1 : 1 ≤ gap) (g2 : gap ≤ 2000000) :
    Calls Try.prog 127 #[.agg #[.int .i64 c, .int .i64 l, .int .i64 h, .int .i64 p, .int .i64 s], .agg #[.int .i64 P, .int .i64 o], .int .i64 gap] w fun e w' => e = .returned (.tuple #[.agg #[.int .i64 (stN P o gap), .int .i64 (stE P o gap)], .agg #[.int .i64 (stPer l h s P o gap), .int .i64 (stOff l h p s P o gap)]]) ∧ Below w.heap.size w w' := by
  by_cases hp : p = 0 <;> by_cases hs : s = 0
  · exact step_0 c l h p s P o gap _ _ 0 w hp hs f1 f2 f3 f4 p1 p2 o1 o2 g1 g2 rfl rfl
  · exact step_1 c l h p s P o gap _ _ 0 w hp hs f1 f2 f3 f4 p1 p2 o1 o2 g1 g2 rfl rfl
  · exact step_2 c l h p s P o gap _ _ 0 w hp hs f1 f2 f3 f4 p1 p2 o1 o2 g1 g2 rfl rfl
  · exact step_3 c l h p s P o gap _ _ 0 w hp hs f1 f2 f3 f4 p1 p2 o1 o2 g1 g2 rfl rfl
end Go.Proofs.Ytdoledckkbcihaa
