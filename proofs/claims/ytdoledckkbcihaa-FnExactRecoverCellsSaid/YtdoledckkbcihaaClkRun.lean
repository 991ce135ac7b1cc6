/- (impl.Clock).started, running and its closure -/
import Derived.Test.YtdoledckkbcihaaClkVal
import Derived.Test.YtdoledckkbcihaaStepRun
import Derived.Test.YtdoledckkbcihaaStartClock
import Derived.Test.YtdoledckkbcihaaBoxF
import Derived.Test.YtdoledckkbcihaaSm
namespace Go.Proofs.Ytdoledckkbcihaa
open Go.RowKit
set_option linter.unusedVariables false
set_option linter.unusedSimpArgs false
set_option maxRecDepth 20000
set_option maxHeartbeats 4000000 in
theorem started_0 (c l h s f : Int) (w : World) (hc : clockOk c l h 0 s = true) (hf : 0 ≤ f) (hf2 : f ≤ 2000000) :
    Calls Try.prog 111 #[.agg #[.int .i64 c, .int .i64 l, .int .i64 h, .int .i64 0, .int .i64 s], .int .i64 f] w fun e w' => e = .returned (.agg #[.int .i64 (c * 64), .int .i64 (off0 c 0 f)]) ∧ Below w.heap.size w w' := by
  have sc := fun w => startClock_any c l h 0 s w
  unfold startPer startCode at sc
  rw [if_pos hc, if_pos hc] at sc
  have SC := Lib.hid sc; clear sc
  obtain ⟨a1, a2, a3, a4, a5⟩ := clockOk_iff.1 hc
  have hob := off0_bd (p := 0) a1.1 a1.2 hf
  unfold off0 at hob ⊢
  have e1 : f.tmod c = f % c := Int.tmod_eq_emod_of_nonneg hf
  have e2 : c.tdiv 2 = c / 2 := Int.tdiv_eq_ediv_of_nonneg (by omega)
  have h1 := Int.emod_nonneg f (show c ≠ 0 by omega)
  have h2 := Int.emod_lt_of_pos f (show 0 < c by omega)
  have hc0 : ¬ c = 0 := by omega
  rw [e1, e2] at hob ⊢
  obtain ⟨r, hr⟩ : ∃ r, f % c = r := ⟨_, rfl⟩
  rw [hr] at e1 h1 h2 hob ⊢
  have hw1 : IntKind.i64.wrap (r - c / 2) = r - c / 2 := IntWalk.i64_in _ (by omega)
  have hw2 : IntKind.i64.wrap (64 * (r - c / 2)) = 64 * (r - c / 2) := IntWalk.i64_in _ (by omega)
  have HH := Lib.hid (And.intro hr (And.intro hc hob)); clear hr hc hob
  rw [if_pos rfl]
  go_enter Try.func111, Try.ntmps111
  go_wp2_with fail
  refine (SC.out _).mono ?_
  rintro e w1 ⟨rfl, hb1⟩
  have hz1 := hb1.size
  simp at hz1
  have BC := Lib.hid (((BoxF.new w #[.int .i64 c, .int .i64 l, .int .i64 h, .int .i64 0, .int .i64 s] 59 _ rfl).below ((Below.refl _ _).alloc (Nat.le_refl _) (Obj.cells #[.int .i64 0, .int .i64 0] 166)) (by simp)).below hb1 (by simp; omega))
  have BR := Lib.hid ((BoxF.new (w.alloc (.cells #[.int .i64 c, .int .i64 l, .int .i64 h, .int .i64 0, .int .i64 s] 59)) #[.int .i64 0, .int .i64 0] 166 (w.heap.size + 1) (by simp)).below hb1 (by simp))
  have HB := Lib.hid (show Below w.heap.size w w1 from Below.trans (show Below w.heap.size w _ from ((Below.refl _ _).alloc (Nat.le_refl _) _).alloc (by simp) _) (hb1.mono (by simp; omega)))
  obtain ⟨c0, z0⟩ := BC.out 0 _ rfl
  obtain ⟨c3, z3⟩ := BC.out 3 _ rfl
  obtain ⟨d0, y0⟩ := BR.out 0 _ rfl
  obtain ⟨d1, y1⟩ := BR.out 1 _ rfl
  clear hb1
  have q0 : w.heap.size < w1.heap.size := by omega
  have q1 : w.heap.size + 1 < w1.heap.size := by omega
  have q2 : ¬ w.heap.size = w1.heap.size := by omega
  have q3 : ¬ w.heap.size + 1 = w1.heap.size := by omega
  have q4 : ¬ w1.heap.size = w.heap.size := by omega
  have q5 : ¬ w1.heap.size = w.heap.size + 1 := by omega
  go_wp2
  go_region
  all_goals
    go_wp2
    refine bodyPost_ret (v := .agg #[.int .i64 (c * 64), .int .i64 (64 * (r - c / 2))]) (by simp [results, Try.results111, go_sem, q0, q1, q2, q3, q4, q5, d0, d1, y0, y1]) rfl ⟨rfl, ?_⟩
    exact (((HB.out.setCell (by simp) _).setCell (by simp) _).alloc (by simp; omega) _).drew
set_option maxHeartbeats 4000000 in
theorem started_p (c l h p s f : Int) (w : World) (hp : ¬ p = 0) (hc : clockOk c l h p s = true) (hf : 0 ≤ f) (hf2 : f ≤ 2000000) :
    Calls Try.prog 111 #[.agg #[.int .i64 c, .int .i64 l, .int .i64 h, .int .i64 p, .int .i64 s], .int .i64 f] w fun e w' => e = .returned (.agg #[.int .i64 (c * 64), .int .i64 (off0 c p f)]) ∧ Below w.heap.size w w' := by
  have sc := fun w => startClock_any c l h p s w
  unfold startPer startCode at sc
  rw [if_pos hc, if_pos hc] at sc
  have SC := Lib.hid sc; clear sc
  obtain ⟨a1, a2, a3, a4, a5⟩ := clockOk_iff.1 hc
  have hob := off0_bd (p := p) a1.1 a1.2 hf
  unfold off0 at hob ⊢
  have e1 : f.tmod c = f % c := Int.tmod_eq_emod_of_nonneg hf
  have e2 : c.tdiv 2 = c / 2 := Int.tdiv_eq_ediv_of_nonneg (by omega)
  have h1 := Int.emod_nonneg f (show c ≠ 0 by omega)
  have h2 := Int.emod_lt_of_pos f (show 0 < c by omega)
  have hc0 : ¬ c = 0 := by omega
  rw [e1, e2] at hob ⊢
  obtain ⟨r, hr⟩ : ∃ r, f % c = r := ⟨_, rfl⟩
  rw [hr] at e1 h1 h2 hob ⊢
  have hw1 : IntKind.i64.wrap (r - c / 2) = r - c / 2 := IntWalk.i64_in _ (by omega)
  have hw2 : IntKind.i64.wrap (64 * (r - c / 2)) = 64 * (r - c / 2) := IntWalk.i64_in _ (by omega)
  have HH := Lib.hid (And.intro hr (And.intro hc hob)); clear hr hc hob
  rw [if_neg hp]
  go_enter Try.func111, Try.ntmps111
  go_wp2_with fail
  refine (SC.out _).mono ?_
  rintro e w1 ⟨rfl, hb1⟩
  have hz1 := hb1.size
  simp at hz1
  have BC := Lib.hid (((BoxF.new w #[.int .i64 c, .int .i64 l, .int .i64 h, .int .i64 p, .int .i64 s] 59 _ rfl).below ((Below.refl _ _).alloc (Nat.le_refl _) (Obj.cells #[.int .i64 0, .int .i64 0] 166)) (by simp)).below hb1 (by simp; omega))
  have BR := Lib.hid ((BoxF.new (w.alloc (.cells #[.int .i64 c, .int .i64 l, .int .i64 h, .int .i64 p, .int .i64 s] 59)) #[.int .i64 0, .int .i64 0] 166 (w.heap.size + 1) (by simp)).below hb1 (by simp))
  have HB := Lib.hid (show Below w.heap.size w w1 from Below.trans (show Below w.heap.size w _ from ((Below.refl _ _).alloc (Nat.le_refl _) _).alloc (by simp) _) (hb1.mono (by simp; omega)))
  obtain ⟨c0, z0⟩ := BC.out 0 _ rfl
  obtain ⟨c3, z3⟩ := BC.out 3 _ rfl
  obtain ⟨d0, y0⟩ := BR.out 0 _ rfl
  obtain ⟨d1, y1⟩ := BR.out 1 _ rfl
  clear hb1
  have q0 : w.heap.size < w1.heap.size := by omega
  have q1 : w.heap.size + 1 < w1.heap.size := by omega
  have q2 : ¬ w.heap.size = w1.heap.size := by omega
  have q3 : ¬ w.heap.size + 1 = w1.heap.size := by omega
  have q4 : ¬ w1.heap.size = w.heap.size := by omega
  have q5 : ¬ w1.heap.size = w.heap.size + 1 := by omega
  go_wp2
  refine bodyPost_ret (v := .agg #[.int .i64 (c * 64), .int .i64 (0)]) (by simp [results, Try.results111, go_sem, q0, q1, q2, q3, q4, q5, d0, d1, y0, y1]) rfl ⟨rfl, ?_⟩
  exact ((HB.out.setCell (by simp) _).setCell (by simp) _).alloc (by simp; omega) _
theorem started_any (c l h p s f : Int) (w : World) (hc : clockOk c l h p s = true) (hf : 0 ≤ f) (hf2 : f ≤ 2000000) :
    Calls Try.prog 111 #[.agg #[.int .i64 c, .int .i64 l, .int .i64 h, .int .i64 p, .int .i64 s], .int .i64 f] w fun e w' => e = .returned (.agg #[.int .i64 (c * 64), .int .i64 (off0 c p f)]) ∧ Below w.heap.size w w' := by
  by_cases hp : p = 0
  · subst hp; exact started_0 c l h s f w hc hf hf2
  · exact started_p c l h p s f w hp hc hf hf2
/-- The closure that keeps the state in block q + 1, and the clock in block q. -/
def runV (q : Nat) : Value := .func (.func 126) #[] #[.pointer (some ⟨q, 0, none⟩), .pointer (some ⟨q + 1, 0, none⟩)]
set_option maxHeartbeats 2000000 in
theorem running_any (c l h p s P o : Int) (w : World) :
    Calls Try.prog 110 #[.agg #[.int .i64 c, .int .i64 l, .int .i64 h, .int .i64 p, .int .i64 s], .agg #[.int .i64 P, .int .i64 o]] w fun e w' => e = .returned (runV w.heap.size) ∧ BoxF w' w.heap.size #[.int .i64 c, .int .i64 l, .int .i64 h, .int .i64 p, .int .i64 s] ∧ BoxF w' (w.heap.size + 1) #[.int .i64 P, .int .i64 o] ∧ Below w.heap.size w w' ∧ w'.heap.size = w.heap.size + 2 := by
  go_enter Try.func110, Try.ntmps110
  go_wp2
  go_ret
  exact ⟨rfl, (BoxF.new w _ 59 _ rfl).below ((Below.refl _ _).alloc (Nat.le_refl _) _) (by simp), BoxF.new _ _ 166 _ (by simp), by go_grown, by simp⟩
def RunRes (q : Nat) (n e P o : Int) (w : World) (x : Ending) (w' : World) : Prop :=
  x = .returned (.agg #[.int .i64 n, .int .i64 e]) ∧ BoxF w' (q + 1) #[.int .i64 P, .int .i64 o] ∧ Below (q + 1) w w' ∧ Sm (q + 1) (q + 2) w w'
set_option maxHeartbeats 4000000 in
theorem run1_any (c l h p s P o gap : Int) (q : Nat) (w : World) (hB : BoxF w q #[.int .i64 c, .int .i64 l, .int .i64 h, .int .i64 p, .int .i64 s]) (hX : BoxF w (q + 1) #[.int .i64 P, .int .i64 o]) (hq : q + 1 < w.heap.size)
    (f1 : 2 ≤ l ∧ l ≤ 400) (f2 : 2 ≤ h ∧ h ≤ 400) (f3 : 0 ≤ p ∧ p ≤ 64) (f4 : 0 ≤ s ∧ s ≤ 64) (p1 : 128 ≤ P) (p2 : P ≤ 25600) (o1 : -25600 ≤ o) (o2 : o ≤ 25600) (g1 : 1 ≤ gap) (g2 : gap ≤ 2000000) :
    Calls Try.prog 126 #[.int .i64 gap, .pointer (some ⟨q, 0, none⟩), .pointer (some ⟨q + 1, 0, none⟩)] w (RunRes q (stN P o gap) (stE P o gap) (stPer l h s P o gap) (stOff l h p s P o gap) w) := by
  have ST := Lib.hid (fun w => step_any c l h p s P o gap w f1 f2 f3 f4 p1 p2 o1 o2 g1 g2)
  generalize stN P o gap = N at ST ⊢
  generalize stE P o gap = E at ST ⊢
  generalize stPer l h s P o gap = P' at ST ⊢
  generalize stOff l h p s P o gap = o' at ST ⊢
  obtain ⟨b0, _⟩ := hB 0 _ rfl
  obtain ⟨b1, _⟩ := hB 1 _ rfl
  obtain ⟨b2, _⟩ := hB 2 _ rfl
  obtain ⟨b3, _⟩ := hB 3 _ rfl
  obtain ⟨b4, _⟩ := hB 4 _ rfl
  obtain ⟨x0, _⟩ := hX 0 _ rfl
  obtain ⟨x1, _⟩ := hX 1 _ rfl
  have HX := Lib.hid hX
  clear hB hX f1 f2 f3 f4 p1 p2 o1 o2 g1 g2
  have hq0 : q < w.heap.size := by omega
  go_enter Try.func126, Try.ntmps126
  go_wp2_with fail
  refine (ST.out _).mono ?_
  rintro e w1 ⟨rfl, hb1⟩
  have hz1 := hb1.size
  simp at hz1
  have BR := Lib.hid ((BoxF.new w #[.int .i64 0, .int .i64 0] 127 _ rfl).below hb1 (by simp))
  have BX := Lib.hid ((HX.out.below ((Below.refl _ _).alloc (Nat.le_refl _) (Obj.cells #[.int .i64 0, .int .i64 0] 127)) (by omega)).below hb1 (by simp; omega))
  have HS := Lib.hid (show Below w.heap.size w w1 from Below.trans (show Below w.heap.size w _ from (Below.refl _ _).alloc (Nat.le_refl _) (Obj.cells #[.int .i64 0, .int .i64 0] 127)) (hb1.mono (by simp)))
  obtain ⟨d0, y0⟩ := BR.out 0 _ rfl
  obtain ⟨d1, y1⟩ := BR.out 1 _ rfl
  obtain ⟨c0, z0⟩ := BX.out 0 _ rfl
  obtain ⟨c1, z1⟩ := BX.out 1 _ rfl
  clear hb1 b0 b1 b2 b3 b4 x0 x1
  have q0 : w.heap.size < w1.heap.size := by omega
  have q2 : ¬ w.heap.size = w1.heap.size := by omega
  have q4 : ¬ w1.heap.size = w.heap.size := by omega
  have q6 : ¬ q + 1 = w.heap.size := by omega
  have q7 : ¬ w.heap.size = q + 1 := by omega
  have q8 : q + 1 < w1.heap.size := by omega
  have q9 : ¬ q + 1 = w1.heap.size := by omega
  have q10 : ¬ q = w1.heap.size := by omega
  have q11 : ¬ w1.heap.size = q + 1 := by omega
  have q12 : ¬ w1.heap.size = q := by omega
  have q13 : ¬ w.heap.size = w1.heap.size + 1 := by omega
  have q14 : ¬ w1.heap.size + 1 = w.heap.size := by omega
  have q15 : q + 1 < w1.heap.size + 1 := by omega
  have q16 : w.heap.size < w1.heap.size + 1 := by omega
  go_wp2
  refine bodyPost_ret (v := .agg #[.int .i64 N, .int .i64 E]) (by simp [results, Try.results126, go_sem, q0, q2, q4, q6, q7, q8, q9, q10, q11, q12, q13, q14, q15, q16, d0, d1, y0, y1]) rfl ⟨rfl, ?_, ?_, ?_⟩
  · exact boxF2 (by simp [go_sem, q0, q2, q4, q6, q7, q8, q9, q10, q11, q12, q13, q14, q15, q16, c0, z0]) (by simp [go_sem, q0, q2, q4, q6, q7, q8, q9, q10, q11, q12, q13, q14, q15, q16, c1, z1])
  · exact ((((((HS.out.mono (by omega)).setCell (by simp) _).setCell (by simp) _).setCell (by simp; omega) _).setCell (by simp; omega) _).alloc (by simp; omega) _).alloc (by simp; omega) _
  · refine ⟨by simp; omega, ?_⟩
    intro b hb hb2
    have n1 : b ≠ q + 1 := by omega
    have n2 : b ≠ w.heap.size := by omega
    rw [Below.heap_alloc _ _ _ (by simp; omega), Below.heap_alloc _ _ _ (by simp; omega), Below.heap_setCell _ _ _ _ n2, Below.heap_setCell _ _ _ _ n2, Below.heap_setCell _ _ _ _ n1, Below.heap_setCell _ _ _ _ n1]
    exact HS.out.block b hb
end Go.Proofs.Ytdoledckkbcihaa
