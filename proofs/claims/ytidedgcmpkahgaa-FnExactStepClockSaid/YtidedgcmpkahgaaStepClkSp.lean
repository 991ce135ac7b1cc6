/- spec.StepClock -/
import Derived.Test.YtidedgcmpkahgaaStepSp
import Derived.Test.YtidedgcmpkahgaaStepClk
import Derived.Test.YtidedgcmpkahgaaSpecOk
namespace Go.Proofs.Ytidedgcmpkahgaa
open Go.RowKit
set_option linter.unusedVariables false
set_option linter.unusedSimpArgs false
set_option maxRecDepth 20000
set_option maxHeartbeats 8000000 in
theorem specStepClock_any (c l h p s P o gap : Int) (w : World) :
    Calls Try.prog 19 #[.agg #[.int .i64 c, .int .i64 l, .int .i64 h, .int .i64 p, .int .i64 s], .agg #[.int .i64 P, .int .i64 o], .int .i64 gap] w (StepRes (scN c l h p s P o gap) (scP c l h p s P o gap) (scO c l h p s P o gap) (scC c l h p s P o gap) w) := by
  have vc := fun w => l03Ok_any c l h p s w
  cases hv : clockOk c l h p s with
  | false =>
    have EB := Lib.hid (sc_bad (c := c) (l := l) (h := h) (p := p) (s := s) (P := P) (o := o) (gap := gap) (by unfold sclkOk; rw [hv]; rfl))
    rw [hv] at vc
    have VC := Lib.hid (fun w => (vc w).mono (fun e w' ⟨h1, h2⟩ => (show e = Ending.returned (.bool false) ∧ Below w.heap.size w w' from ⟨h1, by first | exact h2 | (subst h2; exact Below.refl _ _)⟩)))
    clear vc hv
    go_enter Try.func19, Try.ntmps19
    go_upto_region 1 with (fail)
    have bC : BoxF (((w.alloc (.cells #[.int .i64 c, .int .i64 l, .int .i64 h, .int .i64 p, .int .i64 s] 48)).alloc (.cells #[.int .i64 P, .int .i64 o] 45)).alloc (.cells #[.int .i64 0, .int .i64 0] 45)) w.heap.size #[.int .i64 c, .int .i64 l, .int .i64 h, .int .i64 p, .int .i64 s] := boxF5 (by simp [go_sem]) (by simp [go_sem]) (by simp [go_sem]) (by simp [go_sem]) (by simp [go_sem])
    have bL : BoxF (((w.alloc (.cells #[.int .i64 c, .int .i64 l, .int .i64 h, .int .i64 p, .int .i64 s] 48)).alloc (.cells #[.int .i64 P, .int .i64 o] 45)).alloc (.cells #[.int .i64 0, .int .i64 0] 45)) (w.heap.size + 1) #[.int .i64 P, .int .i64 o] := boxF2 (by simp [go_sem]) (by simp [go_sem])
    have bR : BoxF (((w.alloc (.cells #[.int .i64 c, .int .i64 l, .int .i64 h, .int .i64 p, .int .i64 s] 48)).alloc (.cells #[.int .i64 P, .int .i64 o] 45)).alloc (.cells #[.int .i64 0, .int .i64 0] 45)) (w.heap.size + 1 + 1) #[.int .i64 0, .int .i64 0] := boxF2 (by simp [go_sem]) (by simp [go_sem])
    have FB := Lib.hid (show Below w.heap.size w (((w.alloc (.cells #[.int .i64 c, .int .i64 l, .int .i64 h, .int .i64 p, .int .i64 s] 48)).alloc (.cells #[.int .i64 P, .int .i64 o] 45)).alloc (.cells #[.int .i64 0, .int .i64 0] 45)) by go_grown)
    have hlt2 : w.heap.size + 1 + 1 < (((w.alloc (.cells #[.int .i64 c, .int .i64 l, .int .i64 h, .int .i64 p, .int .i64 s] 48)).alloc (.cells #[.int .i64 P, .int .i64 o] 45)).alloc (.cells #[.int .i64 0, .int .i64 0] 45)).heap.size := by simp
    generalize (((w.alloc (.cells #[.int .i64 c, .int .i64 l, .int .i64 h, .int .i64 p, .int .i64 s] 48)).alloc (.cells #[.int .i64 P, .int .i64 o] 45)).alloc (.cells #[.int .i64 0, .int .i64 0] 45)) = W at *
    have hlt1 : w.heap.size + 1 < W.heap.size := by omega
    have hlt0 : w.heap.size < W.heap.size := by omega
    have BC := Lib.hid (fun w' (hb : Below W.heap.size W w') => bC.below hb hlt0)
    have BL := Lib.hid (fun w' (hb : Below W.heap.size W w') => bL.below hb hlt1)
    have BR := Lib.hid (fun w' (hb : Below W.heap.size W w') => bR.below hb hlt2)
    clear bL bR
    obtain ⟨xC0, _⟩ := bC 0 _ rfl
    obtain ⟨xC1, _⟩ := bC 1 _ rfl
    obtain ⟨xC2, _⟩ := bC 2 _ rfl
    obtain ⟨xC3, _⟩ := bC 3 _ rfl
    obtain ⟨xC4, _⟩ := bC 4 _ rfl
    clear bC
    go_wp2_with fail
    refine (VC.out _).mono ?_
    rintro e w2 ⟨rfl, hb2⟩
    clear xC0 xC1 xC2 xC3 xC4
    have HC := Lib.hid (show Below W.heap.size W w2 from hb2)
    clear hb2
    obtain ⟨xC0, _⟩ := BC.out _ HC.out 0 _ rfl
    obtain ⟨xC1, _⟩ := BC.out _ HC.out 1 _ rfl
    obtain ⟨xC2, _⟩ := BC.out _ HC.out 2 _ rfl
    obtain ⟨xC3, _⟩ := BC.out _ HC.out 3 _ rfl
    obtain ⟨xC4, _⟩ := BC.out _ HC.out 4 _ rfl
    obtain ⟨xL0, _⟩ := BL.out _ HC.out 0 _ rfl
    obtain ⟨xL1, _⟩ := BL.out _ HC.out 1 _ rfl
    obtain ⟨xR0, yR0⟩ := BR.out _ HC.out 0 _ rfl
    obtain ⟨xR1, yR1⟩ := BR.out _ HC.out 1 _ rfl
    have FZ := Lib.hid (FB.out.trans (HC.out.mono (by omega)))
    have hzR := Nat.lt_of_lt_of_le hlt2 HC.out.size
    go_wp2
    refine bodyPost_ret (v := .tuple #[.int .i64 0, .agg #[.int .i64 0, .int .i64 0], .int .i64 1]) (by simp [results, Try.results19, go_sem, xR0, yR0, xR1, yR1]) rfl ?_
    obtain ⟨q1, q2, q3, q4⟩ := EB.out
    rw [q1, q2, q3, q4]
    exact ⟨rfl, (FZ.out.setCell (by simp <;> omega) _).setCell (by simp <;> omega) _⟩
  | true =>
  rw [hv] at vc
  have VC := Lib.hid (fun w => (vc w).mono (fun e w' ⟨h1, h2⟩ => (show e = Ending.returned (.bool true) ∧ Below w.heap.size w w' from ⟨h1, by first | exact h2 | (subst h2; exact Below.refl _ _)⟩)))
  obtain ⟨k1, k2, k3, k4, k5⟩ := clockOk_iff.1 hv
  have i1 := fun w => l00In_any P (l * 64) (h * 64) w
  have i2 := fun w => l00In_any o (-P) P w
  have i3 := fun w => l00In_any gap 1 2000000 w
  have hl64 : wrap64 (l * 64) = l * 64 := by unfold wrap64; omega
  have hh64 : wrap64 (h * 64) = h * 64 := by unfold wrap64; omega
  clear vc
  cases h1 : inB (l * 64) (h * 64) P with
  | false =>
    have EB := Lib.hid (sc_bad (c := c) (l := l) (h := h) (p := p) (s := s) (P := P) (o := o) (gap := gap) (by unfold sclkOk lckOk; rw [h1]; simp))
    rw [h1] at i1
    have I1 := Lib.hid i1
    clear i1 i2 i3 h1 hv
    go_enter Try.func19, Try.ntmps19
    go_upto_region 1 with (fail)
    have bC : BoxF (((w.alloc (.cells #[.int .i64 c, .int .i64 l, .int .i64 h, .int .i64 p, .int .i64 s] 48)).alloc (.cells #[.int .i64 P, .int .i64 o] 45)).alloc (.cells #[.int .i64 0, .int .i64 0] 45)) w.heap.size #[.int .i64 c, .int .i64 l, .int .i64 h, .int .i64 p, .int .i64 s] := boxF5 (by simp [go_sem]) (by simp [go_sem]) (by simp [go_sem]) (by simp [go_sem]) (by simp [go_sem])
    have bL : BoxF (((w.alloc (.cells #[.int .i64 c, .int .i64 l, .int .i64 h, .int .i64 p, .int .i64 s] 48)).alloc (.cells #[.int .i64 P, .int .i64 o] 45)).alloc (.cells #[.int .i64 0, .int .i64 0] 45)) (w.heap.size + 1) #[.int .i64 P, .int .i64 o] := boxF2 (by simp [go_sem]) (by simp [go_sem])
    have bR : BoxF (((w.alloc (.cells #[.int .i64 c, .int .i64 l, .int .i64 h, .int .i64 p, .int .i64 s] 48)).alloc (.cells #[.int .i64 P, .int .i64 o] 45)).alloc (.cells #[.int .i64 0, .int .i64 0] 45)) (w.heap.size + 1 + 1) #[.int .i64 0, .int .i64 0] := boxF2 (by simp [go_sem]) (by simp [go_sem])
    have FB := Lib.hid (show Below w.heap.size w (((w.alloc (.cells #[.int .i64 c, .int .i64 l, .int .i64 h, .int .i64 p, .int .i64 s] 48)).alloc (.cells #[.int .i64 P, .int .i64 o] 45)).alloc (.cells #[.int .i64 0, .int .i64 0] 45)) by go_grown)
    have hlt2 : w.heap.size + 1 + 1 < (((w.alloc (.cells #[.int .i64 c, .int .i64 l, .int .i64 h, .int .i64 p, .int .i64 s] 48)).alloc (.cells #[.int .i64 P, .int .i64 o] 45)).alloc (.cells #[.int .i64 0, .int .i64 0] 45)).heap.size := by simp
    generalize (((w.alloc (.cells #[.int .i64 c, .int .i64 l, .int .i64 h, .int .i64 p, .int .i64 s] 48)).alloc (.cells #[.int .i64 P, .int .i64 o] 45)).alloc (.cells #[.int .i64 0, .int .i64 0] 45)) = W at *
    have hlt1 : w.heap.size + 1 < W.heap.size := by omega
    have hlt0 : w.heap.size < W.heap.size := by omega
    have BC := Lib.hid (fun w' (hb : Below W.heap.size W w') => bC.below hb hlt0)
    have BL := Lib.hid (fun w' (hb : Below W.heap.size W w') => bL.below hb hlt1)
    have BR := Lib.hid (fun w' (hb : Below W.heap.size W w') => bR.below hb hlt2)
    clear bL bR
    obtain ⟨xC0, _⟩ := bC 0 _ rfl
    obtain ⟨xC1, _⟩ := bC 1 _ rfl
    obtain ⟨xC2, _⟩ := bC 2 _ rfl
    obtain ⟨xC3, _⟩ := bC 3 _ rfl
    obtain ⟨xC4, _⟩ := bC 4 _ rfl
    clear bC
    go_wp2_with fail
    refine (VC.out _).mono ?_
    rintro e w2 ⟨rfl, hb2⟩
    clear xC0 xC1 xC2 xC3 xC4
    have HC := Lib.hid (show Below W.heap.size W w2 from hb2)
    clear hb2
    obtain ⟨xC0, _⟩ := BC.out _ HC.out 0 _ rfl
    obtain ⟨xC1, _⟩ := BC.out _ HC.out 1 _ rfl
    obtain ⟨xC2, _⟩ := BC.out _ HC.out 2 _ rfl
    obtain ⟨xC3, _⟩ := BC.out _ HC.out 3 _ rfl
    obtain ⟨xC4, _⟩ := BC.out _ HC.out 4 _ rfl
    obtain ⟨xL0, _⟩ := BL.out _ HC.out 0 _ rfl
    obtain ⟨xL1, _⟩ := BL.out _ HC.out 1 _ rfl
    go_wp2_with fail
    refine (I1.out _).mono ?_
    rintro e _ ⟨rfl, rfl⟩
    obtain ⟨xR0, yR0⟩ := BR.out _ HC.out 0 _ rfl
    obtain ⟨xR1, yR1⟩ := BR.out _ HC.out 1 _ rfl
    have FZ := Lib.hid (FB.out.trans (HC.out.mono (by omega)))
    have hzR := Nat.lt_of_lt_of_le hlt2 HC.out.size
    go_wp2
    refine bodyPost_ret (v := .tuple #[.int .i64 0, .agg #[.int .i64 0, .int .i64 0], .int .i64 1]) (by simp [results, Try.results19, go_sem, xR0, yR0, xR1, yR1]) rfl ?_
    obtain ⟨q1, q2, q3, q4⟩ := EB.out
    rw [q1, q2, q3, q4]
    exact ⟨rfl, (FZ.out.setCell (by simp <;> omega) _).setCell (by simp <;> omega) _⟩
  | true =>
  rw [h1] at i1
  have I1 := Lib.hid i1
  obtain ⟨j1, j2⟩ := inB_iff.1 h1
  cases h2 : inB (-P) P o with
  | false =>
    have EB := Lib.hid (sc_bad (c := c) (l := l) (h := h) (p := p) (s := s) (P := P) (o := o) (gap := gap) (by unfold sclkOk lckOk; rw [h2]; simp))
    rw [h2] at i2
    have I2 := Lib.hid i2
    clear i1 i2 i3 h1 h2 hv
    go_enter Try.func19, Try.ntmps19
    go_upto_region 1 with (fail)
    have bC : BoxF (((w.alloc (.cells #[.int .i64 c, .int .i64 l, .int .i64 h, .int .i64 p, .int .i64 s] 48)).alloc (.cells #[.int .i64 P, .int .i64 o] 45)).alloc (.cells #[.int .i64 0, .int .i64 0] 45)) w.heap.size #[.int .i64 c, .int .i64 l, .int .i64 h, .int .i64 p, .int .i64 s] := boxF5 (by simp [go_sem]) (by simp [go_sem]) (by simp [go_sem]) (by simp [go_sem]) (by simp [go_sem])
    have bL : BoxF (((w.alloc (.cells #[.int .i64 c, .int .i64 l, .int .i64 h, .int .i64 p, .int .i64 s] 48)).alloc (.cells #[.int .i64 P, .int .i64 o] 45)).alloc (.cells #[.int .i64 0, .int .i64 0] 45)) (w.heap.size + 1) #[.int .i64 P, .int .i64 o] := boxF2 (by simp [go_sem]) (by simp [go_sem])
    have bR : BoxF (((w.alloc (.cells #[.int .i64 c, .int .i64 l, .int .i64 h, .int .i64 p, .int .i64 s] 48)).alloc (.cells #[.int .i64 P, .int .i64 o] 45)).alloc (.cells #[.int .i64 0, .int .i64 0] 45)) (w.heap.size + 1 + 1) #[.int .i64 0, .int .i64 0] := boxF2 (by simp [go_sem]) (by simp [go_sem])
    have FB := Lib.hid (show Below w.heap.size w (((w.alloc (.cells #[.int .i64 c, .int .i64 l, .int .i64 h, .int .i64 p, .int .i64 s] 48)).alloc (.cells #[.int .i64 P, .int .i64 o] 45)).alloc (.cells #[.int .i64 0, .int .i64 0] 45)) by go_grown)
    have hlt2 : w.heap.size + 1 + 1 < (((w.alloc (.cells #[.int .i64 c, .int .i64 l, .int .i64 h, .int .i64 p, .int .i64 s] 48)).alloc (.cells #[.int .i64 P, .int .i64 o] 45)).alloc (.cells #[.int .i64 0, .int .i64 0] 45)).heap.size := by simp
    generalize (((w.alloc (.cells #[.int .i64 c, .int .i64 l, .int .i64 h, .int .i64 p, .int .i64 s] 48)).alloc (.cells #[.int .i64 P, .int .i64 o] 45)).alloc (.cells #[.int .i64 0, .int .i64 0] 45)) = W at *
    have hlt1 : w.heap.size + 1 < W.heap.size := by omega
    have hlt0 : w.heap.size < W.heap.size := by omega
    have BC := Lib.hid (fun w' (hb : Below W.heap.size W w') => bC.below hb hlt0)
    have BL := Lib.hid (fun w' (hb : Below W.heap.size W w') => bL.below hb hlt1)
    have BR := Lib.hid (fun w' (hb : Below W.heap.size W w') => bR.below hb hlt2)
    clear bL bR
    obtain ⟨xC0, _⟩ := bC 0 _ rfl
    obtain ⟨xC1, _⟩ := bC 1 _ rfl
    obtain ⟨xC2, _⟩ := bC 2 _ rfl
    obtain ⟨xC3, _⟩ := bC 3 _ rfl
    obtain ⟨xC4, _⟩ := bC 4 _ rfl
    clear bC
    go_wp2_with fail
    refine (VC.out _).mono ?_
    rintro e w2 ⟨rfl, hb2⟩
    clear xC0 xC1 xC2 xC3 xC4
    have HC := Lib.hid (show Below W.heap.size W w2 from hb2)
    clear hb2
    obtain ⟨xC0, _⟩ := BC.out _ HC.out 0 _ rfl
    obtain ⟨xC1, _⟩ := BC.out _ HC.out 1 _ rfl
    obtain ⟨xC2, _⟩ := BC.out _ HC.out 2 _ rfl
    obtain ⟨xC3, _⟩ := BC.out _ HC.out 3 _ rfl
    obtain ⟨xC4, _⟩ := BC.out _ HC.out 4 _ rfl
    obtain ⟨xL0, _⟩ := BL.out _ HC.out 0 _ rfl
    obtain ⟨xL1, _⟩ := BL.out _ HC.out 1 _ rfl
    go_wp2_with fail
    refine (I1.out _).mono ?_
    rintro e _ ⟨rfl, rfl⟩
    go_wp2_with fail
    refine (I2.out _).mono ?_
    rintro e _ ⟨rfl, rfl⟩
    obtain ⟨xR0, yR0⟩ := BR.out _ HC.out 0 _ rfl
    obtain ⟨xR1, yR1⟩ := BR.out _ HC.out 1 _ rfl
    have FZ := Lib.hid (FB.out.trans (HC.out.mono (by omega)))
    have hzR := Nat.lt_of_lt_of_le hlt2 HC.out.size
    go_wp2
    refine bodyPost_ret (v := .tuple #[.int .i64 0, .agg #[.int .i64 0, .int .i64 0], .int .i64 1]) (by simp [results, Try.results19, go_sem, xR0, yR0, xR1, yR1]) rfl ?_
    obtain ⟨q1, q2, q3, q4⟩ := EB.out
    rw [q1, q2, q3, q4]
    exact ⟨rfl, (FZ.out.setCell (by simp <;> omega) _).setCell (by simp <;> omega) _⟩
  | true =>
  rw [h2] at i2
  have I2 := Lib.hid i2
  obtain ⟨j3, j4⟩ := inB_iff.1 h2
  cases h3 : inB 1 2000000 gap with
  | false =>
    have EB := Lib.hid (sc_bad (c := c) (l := l) (h := h) (p := p) (s := s) (P := P) (o := o) (gap := gap) (by unfold sclkOk; rw [h3]; simp))
    rw [h3] at i3
    have I3 := Lib.hid i3
    clear i1 i2 i3 h1 h2 h3 hv
    go_enter Try.func19, Try.ntmps19
    go_upto_region 1 with (fail)
    have bC : BoxF (((w.alloc (.cells #[.int .i64 c, .int .i64 l, .int .i64 h, .int .i64 p, .int .i64 s] 48)).alloc (.cells #[.int .i64 P, .int .i64 o] 45)).alloc (.cells #[.int .i64 0, .int .i64 0] 45)) w.heap.size #[.int .i64 c, .int .i64 l, .int .i64 h, .int .i64 p, .int .i64 s] := boxF5 (by simp [go_sem]) (by simp [go_sem]) (by simp [go_sem]) (by simp [go_sem]) (by simp [go_sem])
    have bL : BoxF (((w.alloc (.cells #[.int .i64 c, .int .i64 l, .int .i64 h, .int .i64 p, .int .i64 s] 48)).alloc (.cells #[.int .i64 P, .int .i64 o] 45)).alloc (.cells #[.int .i64 0, .int .i64 0] 45)) (w.heap.size + 1) #[.int .i64 P, .int .i64 o] := boxF2 (by simp [go_sem]) (by simp [go_sem])
    have bR : BoxF (((w.alloc (.cells #[.int .i64 c, .int .i64 l, .int .i64 h, .int .i64 p, .int .i64 s] 48)).alloc (.cells #[.int .i64 P, .int .i64 o] 45)).alloc (.cells #[.int .i64 0, .int .i64 0] 45)) (w.heap.size + 1 + 1) #[.int .i64 0, .int .i64 0] := boxF2 (by simp [go_sem]) (by simp [go_sem])
    have FB := Lib.hid (show Below w.heap.size w (((w.alloc (.cells #[.int .i64 c, .int .i64 l, .int .i64 h, .int .i64 p, .int .i64 s] 48)).alloc (.cells #[.int .i64 P, .int .i64 o] 45)).alloc (.cells #[.int .i64 0, .int .i64 0] 45)) by go_grown)
    have hlt2 : w.heap.size + 1 + 1 < (((w.alloc (.cells #[.int .i64 c, .int .i64 l, .int .i64 h, .int .i64 p, .int .i64 s] 48)).alloc (.cells #[.int .i64 P, .int .i64 o] 45)).alloc (.cells #[.int .i64 0, .int .i64 0] 45)).heap.size := by simp
    generalize (((w.alloc (.cells #[.int .i64 c, .int .i64 l, .int .i64 h, .int .i64 p, .int .i64 s] 48)).alloc (.cells #[.int .i64 P, .int .i64 o] 45)).alloc (.cells #[.int .i64 0, .int .i64 0] 45)) = W at *
    have hlt1 : w.heap.size + 1 < W.heap.size := by omega
    have hlt0 : w.heap.size < W.heap.size := by omega
    have BC := Lib.hid (fun w' (hb : Below W.heap.size W w') => bC.below hb hlt0)
    have BL := Lib.hid (fun w' (hb : Below W.heap.size W w') => bL.below hb hlt1)
    have BR := Lib.hid (fun w' (hb : Below W.heap.size W w') => bR.below hb hlt2)
    clear bL bR
    obtain ⟨xC0, _⟩ := bC 0 _ rfl
    obtain ⟨xC1, _⟩ := bC 1 _ rfl
    obtain ⟨xC2, _⟩ := bC 2 _ rfl
    obtain ⟨xC3, _⟩ := bC 3 _ rfl
    obtain ⟨xC4, _⟩ := bC 4 _ rfl
    clear bC
    go_wp2_with fail
    refine (VC.out _).mono ?_
    rintro e w2 ⟨rfl, hb2⟩
    clear xC0 xC1 xC2 xC3 xC4
    have HC := Lib.hid (show Below W.heap.size W w2 from hb2)
    clear hb2
    obtain ⟨xC0, _⟩ := BC.out _ HC.out 0 _ rfl
    obtain ⟨xC1, _⟩ := BC.out _ HC.out 1 _ rfl
    obtain ⟨xC2, _⟩ := BC.out _ HC.out 2 _ rfl
    obtain ⟨xC3, _⟩ := BC.out _ HC.out 3 _ rfl
    obtain ⟨xC4, _⟩ := BC.out _ HC.out 4 _ rfl
    obtain ⟨xL0, _⟩ := BL.out _ HC.out 0 _ rfl
    obtain ⟨xL1, _⟩ := BL.out _ HC.out 1 _ rfl
    go_wp2_with fail
    refine (I1.out _).mono ?_
    rintro e _ ⟨rfl, rfl⟩
    go_wp2_with fail
    refine (I2.out _).mono ?_
    rintro e _ ⟨rfl, rfl⟩
    go_wp2_with fail
    refine (I3.out _).mono ?_
    rintro e _ ⟨rfl, rfl⟩
    obtain ⟨xR0, yR0⟩ := BR.out _ HC.out 0 _ rfl
    obtain ⟨xR1, yR1⟩ := BR.out _ HC.out 1 _ rfl
    have FZ := Lib.hid (FB.out.trans (HC.out.mono (by omega)))
    have hzR := Nat.lt_of_lt_of_le hlt2 HC.out.size
    go_wp2
    refine bodyPost_ret (v := .tuple #[.int .i64 0, .agg #[.int .i64 0, .int .i64 0], .int .i64 1]) (by simp [results, Try.results19, go_sem, xR0, yR0, xR1, yR1]) rfl ?_
    obtain ⟨q1, q2, q3, q4⟩ := EB.out
    rw [q1, q2, q3, q4]
    exact ⟨rfl, (FZ.out.setCell (by simp <;> omega) _).setCell (by simp <;> omega) _⟩
  | true =>
  have HOK := Lib.hid (show sclkOk c l h p s P o gap = true by unfold sclkOk lckOk; rw [hv, h1, h2, h3]; rfl)
  obtain ⟨i4, i5⟩ := inB_iff.1 h3
  rw [h3] at i3
  have I3 := Lib.hid i3
  have SR := Lib.hid (fun w => l03Step_any c l h p s P o gap w (by omega) (by omega) (by omega) (by omega) (by omega) (by omega) (by omega) (by omega) i4 i5 j1 j2)
  have EL := Lib.hid (sc_long HOK.out)
  have EG := Lib.hid (sc_good HOK.out)
  clear i1 i2 i3 h1 h2 h3 hv k1 k4 k5 i4 i5
  generalize stN P o gap = N at *
  generalize stE P o gap = E at *
  generalize stPer l h s P o gap = Q1 at *
  generalize stOff l h p s P o gap = Q2 at *
  by_cases hn : N ≤ 100
  case neg =>
    have EB := Lib.hid (EL.out hn)
    have hn1 : 100 < N := by omega
    clear hn EG
    go_enter Try.func19, Try.ntmps19
    go_upto_region 1 with (fail)
    have bC : BoxF (((w.alloc (.cells #[.int .i64 c, .int .i64 l, .int .i64 h, .int .i64 p, .int .i64 s] 48)).alloc (.cells #[.int .i64 P, .int .i64 o] 45)).alloc (.cells #[.int .i64 0, .int .i64 0] 45)) w.heap.size #[.int .i64 c, .int .i64 l, .int .i64 h, .int .i64 p, .int .i64 s] := boxF5 (by simp [go_sem]) (by simp [go_sem]) (by simp [go_sem]) (by simp [go_sem]) (by simp [go_sem])
    have bL : BoxF (((w.alloc (.cells #[.int .i64 c, .int .i64 l, .int .i64 h, .int .i64 p, .int .i64 s] 48)).alloc (.cells #[.int .i64 P, .int .i64 o] 45)).alloc (.cells #[.int .i64 0, .int .i64 0] 45)) (w.heap.size + 1) #[.int .i64 P, .int .i64 o] := boxF2 (by simp [go_sem]) (by simp [go_sem])
    have bR : BoxF (((w.alloc (.cells #[.int .i64 c, .int .i64 l, .int .i64 h, .int .i64 p, .int .i64 s] 48)).alloc (.cells #[.int .i64 P, .int .i64 o] 45)).alloc (.cells #[.int .i64 0, .int .i64 0] 45)) (w.heap.size + 1 + 1) #[.int .i64 0, .int .i64 0] := boxF2 (by simp [go_sem]) (by simp [go_sem])
    have FB := Lib.hid (show Below w.heap.size w (((w.alloc (.cells #[.int .i64 c, .int .i64 l, .int .i64 h, .int .i64 p, .int .i64 s] 48)).alloc (.cells #[.int .i64 P, .int .i64 o] 45)).alloc (.cells #[.int .i64 0, .int .i64 0] 45)) by go_grown)
    have hlt2 : w.heap.size + 1 + 1 < (((w.alloc (.cells #[.int .i64 c, .int .i64 l, .int .i64 h, .int .i64 p, .int .i64 s] 48)).alloc (.cells #[.int .i64 P, .int .i64 o] 45)).alloc (.cells #[.int .i64 0, .int .i64 0] 45)).heap.size := by simp
    generalize (((w.alloc (.cells #[.int .i64 c, .int .i64 l, .int .i64 h, .int .i64 p, .int .i64 s] 48)).alloc (.cells #[.int .i64 P, .int .i64 o] 45)).alloc (.cells #[.int .i64 0, .int .i64 0] 45)) = W at *
    have hlt1 : w.heap.size + 1 < W.heap.size := by omega
    have hlt0 : w.heap.size < W.heap.size := by omega
    have BC := Lib.hid (fun w' (hb : Below W.heap.size W w') => bC.below hb hlt0)
    have BL := Lib.hid (fun w' (hb : Below W.heap.size W w') => bL.below hb hlt1)
    have BR := Lib.hid (fun w' (hb : Below W.heap.size W w') => bR.below hb hlt2)
    clear bL bR
    obtain ⟨xC0, _⟩ := bC 0 _ rfl
    obtain ⟨xC1, _⟩ := bC 1 _ rfl
    obtain ⟨xC2, _⟩ := bC 2 _ rfl
    obtain ⟨xC3, _⟩ := bC 3 _ rfl
    obtain ⟨xC4, _⟩ := bC 4 _ rfl
    clear bC
    go_wp2_with fail
    refine (VC.out _).mono ?_
    rintro e w2 ⟨rfl, hb2⟩
    clear xC0 xC1 xC2 xC3 xC4
    have HC := Lib.hid (show Below W.heap.size W w2 from hb2)
    clear hb2
    obtain ⟨xC0, _⟩ := BC.out _ HC.out 0 _ rfl
    obtain ⟨xC1, _⟩ := BC.out _ HC.out 1 _ rfl
    obtain ⟨xC2, _⟩ := BC.out _ HC.out 2 _ rfl
    obtain ⟨xC3, _⟩ := BC.out _ HC.out 3 _ rfl
    obtain ⟨xC4, _⟩ := BC.out _ HC.out 4 _ rfl
    obtain ⟨xL0, _⟩ := BL.out _ HC.out 0 _ rfl
    obtain ⟨xL1, _⟩ := BL.out _ HC.out 1 _ rfl
    go_wp2_with fail
    refine (I1.out _).mono ?_
    rintro e _ ⟨rfl, rfl⟩
    go_wp2_with fail
    refine (I2.out _).mono ?_
    rintro e _ ⟨rfl, rfl⟩
    go_wp2_with fail
    refine (I3.out _).mono ?_
    rintro e _ ⟨rfl, rfl⟩
    go_wp2_with fail
    refine (SR.out _).mono ?_
    rintro e w5 ⟨rfl, hb5⟩
    replace HC := Lib.hid (HC.out.trans (hb5.mono HC.out.size))
    clear xC0 xC1 xC2 xC3 xC4 xL0 xL1 hb5
    go_upto_region 4 with (fail)
    have bQ : BoxF (w5.alloc (.cells #[.int .i64 Q1, .int .i64 Q2] 45)) w5.heap.size #[.int .i64 Q1, .int .i64 Q2] := BoxF.new w5 _ _ _ rfl
    have hc9 : Below W.heap.size W (w5.alloc (.cells #[.int .i64 Q1, .int .i64 Q2] 45)) := HC.out.alloc HC.out.size _
    have h59 := HC.out.size
    generalize (w5.alloc (.cells #[.int .i64 Q1, .int .i64 Q2] 45)) = w6 at *
    obtain ⟨xR0, yR0⟩ := BR.out _ hc9 0 _ rfl
    obtain ⟨xR1, yR1⟩ := BR.out _ hc9 1 _ rfl
    obtain ⟨xQ0, yQ0⟩ := bQ 0 _ rfl
    obtain ⟨xQ1, yQ1⟩ := bQ 1 _ rfl
    have FZ := Lib.hid (FB.out.trans (hc9.mono (by omega)))
    have hzR := Nat.lt_of_lt_of_le hlt2 hc9.size
    clear bQ hc9
    go_wp2
    refine bodyPost_ret (v := .tuple #[.int .i64 0, .agg #[.int .i64 0, .int .i64 0], .int .i64 10]) (by simp [results, Try.results19, go_sem, xR0, yR0, xR1, yR1]) rfl ?_
    obtain ⟨q1, q2, q3, q4⟩ := EB.out
    rw [q1, q2, q3, q4]
    refine ⟨rfl, ?_⟩
    exact (FZ.out.setCell (by simp <;> omega) _).setCell (by simp <;> omega) _
  have EB := Lib.hid (EG.out hn)
  have hn1 : ¬ 100 < N := by omega
  clear hn EL
  go_enter Try.func19, Try.ntmps19
  go_upto_region 1 with (fail)
  have bC : BoxF (((w.alloc (.cells #[.int .i64 c, .int .i64 l, .int .i64 h, .int .i64 p, .int .i64 s] 48)).alloc (.cells #[.int .i64 P, .int .i64 o] 45)).alloc (.cells #[.int .i64 0, .int .i64 0] 45)) w.heap.size #[.int .i64 c, .int .i64 l, .int .i64 h, .int .i64 p, .int .i64 s] := boxF5 (by simp [go_sem]) (by simp [go_sem]) (by simp [go_sem]) (by simp [go_sem]) (by simp [go_sem])
  have bL : BoxF (((w.alloc (.cells #[.int .i64 c, .int .i64 l, .int .i64 h, .int .i64 p, .int .i64 s] 48)).alloc (.cells #[.int .i64 P, .int .i64 o] 45)).alloc (.cells #[.int .i64 0, .int .i64 0] 45)) (w.heap.size + 1) #[.int .i64 P, .int .i64 o] := boxF2 (by simp [go_sem]) (by simp [go_sem])
  have bR : BoxF (((w.alloc (.cells #[.int .i64 c, .int .i64 l, .int .i64 h, .int .i64 p, .int .i64 s] 48)).alloc (.cells #[.int .i64 P, .int .i64 o] 45)).alloc (.cells #[.int .i64 0, .int .i64 0] 45)) (w.heap.size + 1 + 1) #[.int .i64 0, .int .i64 0] := boxF2 (by simp [go_sem]) (by simp [go_sem])
  have FB := Lib.hid (show Below w.heap.size w (((w.alloc (.cells #[.int .i64 c, .int .i64 l, .int .i64 h, .int .i64 p, .int .i64 s] 48)).alloc (.cells #[.int .i64 P, .int .i64 o] 45)).alloc (.cells #[.int .i64 0, .int .i64 0] 45)) by go_grown)
  have hlt2 : w.heap.size + 1 + 1 < (((w.alloc (.cells #[.int .i64 c, .int .i64 l, .int .i64 h, .int .i64 p, .int .i64 s] 48)).alloc (.cells #[.int .i64 P, .int .i64 o] 45)).alloc (.cells #[.int .i64 0, .int .i64 0] 45)).heap.size := by simp
  generalize (((w.alloc (.cells #[.int .i64 c, .int .i64 l, .int .i64 h, .int .i64 p, .int .i64 s] 48)).alloc (.cells #[.int .i64 P, .int .i64 o] 45)).alloc (.cells #[.int .i64 0, .int .i64 0] 45)) = W at *
  have hlt1 : w.heap.size + 1 < W.heap.size := by omega
  have hlt0 : w.heap.size < W.heap.size := by omega
  have BC := Lib.hid (fun w' (hb : Below W.heap.size W w') => bC.below hb hlt0)
  have BL := Lib.hid (fun w' (hb : Below W.heap.size W w') => bL.below hb hlt1)
  have BR := Lib.hid (fun w' (hb : Below W.heap.size W w') => bR.below hb hlt2)
  clear bL bR
  obtain ⟨xC0, _⟩ := bC 0 _ rfl
  obtain ⟨xC1, _⟩ := bC 1 _ rfl
  obtain ⟨xC2, _⟩ := bC 2 _ rfl
  obtain ⟨xC3, _⟩ := bC 3 _ rfl
  obtain ⟨xC4, _⟩ := bC 4 _ rfl
  clear bC
  go_wp2_with fail
  refine (VC.out _).mono ?_
  rintro e w2 ⟨rfl, hb2⟩
  clear xC0 xC1 xC2 xC3 xC4
  have HC := Lib.hid (show Below W.heap.size W w2 from hb2)
  clear hb2
  obtain ⟨xC0, _⟩ := BC.out _ HC.out 0 _ rfl
  obtain ⟨xC1, _⟩ := BC.out _ HC.out 1 _ rfl
  obtain ⟨xC2, _⟩ := BC.out _ HC.out 2 _ rfl
  obtain ⟨xC3, _⟩ := BC.out _ HC.out 3 _ rfl
  obtain ⟨xC4, _⟩ := BC.out _ HC.out 4 _ rfl
  obtain ⟨xL0, _⟩ := BL.out _ HC.out 0 _ rfl
  obtain ⟨xL1, _⟩ := BL.out _ HC.out 1 _ rfl
  go_wp2_with fail
  refine (I1.out _).mono ?_
  rintro e _ ⟨rfl, rfl⟩
  go_wp2_with fail
  refine (I2.out _).mono ?_
  rintro e _ ⟨rfl, rfl⟩
  go_wp2_with fail
  refine (I3.out _).mono ?_
  rintro e _ ⟨rfl, rfl⟩
  go_wp2_with fail
  refine (SR.out _).mono ?_
  rintro e w5 ⟨rfl, hb5⟩
  replace HC := Lib.hid (HC.out.trans (hb5.mono HC.out.size))
  clear xC0 xC1 xC2 xC3 xC4 xL0 xL1 hb5
  go_upto_region 4 with (fail)
  have bQ : BoxF (w5.alloc (.cells #[.int .i64 Q1, .int .i64 Q2] 45)) w5.heap.size #[.int .i64 Q1, .int .i64 Q2] := BoxF.new w5 _ _ _ rfl
  have hc9 : Below W.heap.size W (w5.alloc (.cells #[.int .i64 Q1, .int .i64 Q2] 45)) := HC.out.alloc HC.out.size _
  have h59 := HC.out.size
  generalize (w5.alloc (.cells #[.int .i64 Q1, .int .i64 Q2] 45)) = w6 at *
  obtain ⟨xR0, yR0⟩ := BR.out _ hc9 0 _ rfl
  obtain ⟨xR1, yR1⟩ := BR.out _ hc9 1 _ rfl
  obtain ⟨xQ0, yQ0⟩ := bQ 0 _ rfl
  obtain ⟨xQ1, yQ1⟩ := bQ 1 _ rfl
  have FZ := Lib.hid (FB.out.trans (hc9.mono (by omega)))
  have hzR := Nat.lt_of_lt_of_le hlt2 hc9.size
  clear bQ hc9
  go_wp2
  go_region
  all_goals
    go_wp2
    refine bodyPost_ret (v := .tuple #[.int .i64 N, .agg #[.int .i64 Q1, .int .i64 Q2], .int .i64 0]) (by simp [results, Try.results19, go_sem, xR0, yR0, xR1, yR1]) rfl ?_
    obtain ⟨q1, q2, q3, q4⟩ := EB.out
    rw [q1, q2, q3, q4]
    refine ⟨rfl, ?_⟩
    first | exact ((FZ.out.setCell (by simp <;> omega) _).setCell (by simp <;> omega) _).drew | exact ((FZ.out.drew).setCell (by simp <;> omega) _).setCell (by simp <;> omega) _
end Go.Proofs.Ytidedgcmpkahgaa
