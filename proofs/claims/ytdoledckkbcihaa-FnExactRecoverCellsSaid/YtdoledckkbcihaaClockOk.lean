/- impl.ValidClock, spec.l03Ok, spec.ValidClock -/
import Derived.Test.YtdoledckkbcihaaSlices
namespace Go.Proofs.Ytdoledckkbcihaa
open Go.RowKit
set_option linter.unusedVariables false
/-- Is the clock valid? -/
def clockOk (c l h p s : Int) : Bool := inB 4 200 c && (inB 2 c l && (inB c 400 h && (inB 0 64 p && inB 0 64 s)))
theorem clockOk_iff {c l h p s : Int} : clockOk c l h p s = true ↔ (4 ≤ c ∧ c ≤ 200) ∧ (2 ≤ l ∧ l ≤ c) ∧ (c ≤ h ∧ h ≤ 400) ∧ (0 ≤ p ∧ p ≤ 64) ∧ (0 ≤ s ∧ s ≤ 64) := by
  unfold clockOk
  simp only [Bool.and_eq_true, inB_iff]
theorem within_two (lo hi m n : Int) (w : World) (T : TypeId) (b : Nat) (hb : w.heap.size = b) :
    Calls Try.prog 85 #[.int .i64 lo, .int .i64 hi, .slice (some ⟨b, 0, none⟩) 2 2] (w.alloc (.cells #[.int .i64 m, .int .i64 n] T)) fun e w' => e = .returned (.bool (inB lo hi m && inB lo hi n)) ∧ (w.alloc (.cells #[.int .i64 m, .int .i64 n] T)) = w' := by
  subst hb
  have h := within_list lo hi [m, n] w.heap.size 0 2 (w.alloc (.cells #[.int .i64 m, .int .i64 n] T)) (by simp [maxLen]) (by
    intro i x hx
    match i with
    | 0 => simp at hx; subst hx; simp [go_sem]
    | 1 => simp at hx; subst hx; simp [go_sem]
    | i + 2 => simp at hx)
  simpa using h
set_option maxHeartbeats 1000000 in
theorem validClock_any (c l h p s : Int) (w : World) :
    Calls Try.prog 109 #[.agg #[.int .i64 c, .int .i64 l, .int .i64 h, .int .i64 p, .int .i64 s]] w fun e w' => e = .returned (.bool (clockOk c l h p s)) ∧ Below w.heap.size w w' := by
  have c1 := fun w b T hb => within_at 4 200 c w T b hb
  have c2 := fun w b T hb => within_at 2 c l w T b hb
  have c3 := fun w b T hb => within_at c 400 h w T b hb
  have c4 := fun w b T hb => within_two 0 64 p s w T b hb
  obtain ⟨q1, hq1⟩ : ∃ q, inB 4 200 c = q := ⟨_, rfl⟩
  obtain ⟨q2, hq2⟩ : ∃ q, inB 2 c l = q := ⟨_, rfl⟩
  obtain ⟨q3, hq3⟩ : ∃ q, inB c 400 h = q := ⟨_, rfl⟩
  obtain ⟨q4, hq4⟩ : ∃ q, (inB 0 64 p && inB 0 64 s) = q := ⟨_, rfl⟩
  have he : clockOk c l h p s = (q1 && (q2 && (q3 && q4))) := by unfold clockOk; rw [hq1, hq2, hq3, hq4]
  rw [hq1] at c1; rw [hq2] at c2; rw [hq3] at c3; rw [hq4] at c4
  rw [he]
  have C1 := Lib.hid c1; have C2 := Lib.hid c2; have C3 := Lib.hid c3; have C4 := Lib.hid c4
  clear c1 c2 c3 c4 hq1 hq2 hq3 hq4 he
  cases q1
  · go_enter Try.func109, Try.ntmps109
    go_wp2_with (go_at_call 85; refine (C1.out _ _ _ (by simp)).mono ?_; rintro e w' ⟨rfl, rfl⟩)
    go_ret
    exact ⟨rfl, by go_grown⟩
  · cases q2
    · go_enter Try.func109, Try.ntmps109
      go_wp2_with fail
      refine (C1.out _ _ _ (by simp)).mono ?_; rintro e w' ⟨rfl, rfl⟩
      go_wp2_with fail
      refine (C2.out _ _ _ (by simp)).mono ?_; rintro e w' ⟨rfl, rfl⟩
      go_wp2
      go_ret
      exact ⟨rfl, by go_grown⟩
    · cases q3
      · go_enter Try.func109, Try.ntmps109
        go_wp2_with fail
        refine (C1.out _ _ _ (by simp)).mono ?_; rintro e w' ⟨rfl, rfl⟩
        go_wp2_with fail
        refine (C2.out _ _ _ (by simp)).mono ?_; rintro e w' ⟨rfl, rfl⟩
        go_wp2_with fail
        refine (C3.out _ _ _ (by simp)).mono ?_; rintro e w' ⟨rfl, rfl⟩
        go_wp2
        go_ret
        exact ⟨rfl, by go_grown⟩
      · go_enter Try.func109, Try.ntmps109
        go_wp2_with fail
        refine (C1.out _ _ _ (by simp)).mono ?_; rintro e w' ⟨rfl, rfl⟩
        go_wp2_with fail
        refine (C2.out _ _ _ (by simp)).mono ?_; rintro e w' ⟨rfl, rfl⟩
        go_wp2_with fail
        refine (C3.out _ _ _ (by simp)).mono ?_; rintro e w' ⟨rfl, rfl⟩
        go_wp2_with fail
        refine (C4.out _ _ _ (by simp)).mono ?_; rintro e w' ⟨rfl, rfl⟩
        go_wp2
        go_ret
        exact ⟨by simp, by go_grown⟩
set_option maxHeartbeats 1000000 in
theorem l03Ok_any (c l h p s : Int) (w : World) :
    Calls Try.prog 76 #[.agg #[.int .i64 c, .int .i64 l, .int .i64 h, .int .i64 p, .int .i64 s]] w fun e w' => e = .returned (.bool (clockOk c l h p s)) ∧ Below w.heap.size w w' := by
  have c1 := fun w => l00In_any c 4 200 w
  have c2 := fun w => l00In_any l 2 c w
  have c3 := fun w => l00In_any h c 400 w
  have c4 := fun w => l00In_any p 0 64 w
  have c5 := fun w => l00In_any s 0 64 w
  obtain ⟨q1, hq1⟩ : ∃ q, inB 4 200 c = q := ⟨_, rfl⟩
  obtain ⟨q2, hq2⟩ : ∃ q, inB 2 c l = q := ⟨_, rfl⟩
  obtain ⟨q3, hq3⟩ : ∃ q, inB c 400 h = q := ⟨_, rfl⟩
  obtain ⟨q4, hq4⟩ : ∃ q, inB 0 64 p = q := ⟨_, rfl⟩
  obtain ⟨q5, hq5⟩ : ∃ q, inB 0 64 s = q := ⟨_, rfl⟩
  have he : clockOk c l h p s = (q1 && (q2 && (q3 && (q4 && q5)))) := by unfold clockOk; rw [hq1, hq2, hq3, hq4, hq5]
  rw [hq1] at c1; rw [hq2] at c2; rw [hq3] at c3; rw [hq4] at c4; rw [hq5] at c5
  rw [he]
  have C1 := Lib.hid c1; have C2 := Lib.hid c2; have C3 := Lib.hid c3; have C4 := Lib.hid c4; have C5 := Lib.hid c5
  clear c1 c2 c3 c4 c5 hq1 hq2 hq3 hq4 hq5 he
  cases q1 <;> cases q2 <;> cases q3 <;> cases q4
  all_goals
    go_enter Try.func76, Try.ntmps76
    go_wp2_with (first
      | (go_at_call 44; (with_reducible refine (C1.out _).mono ?_); rintro e w' ⟨rfl, rfl⟩)
      | (go_at_call 44; (with_reducible refine (C2.out _).mono ?_); rintro e w' ⟨rfl, rfl⟩)
      | (go_at_call 44; (with_reducible refine (C3.out _).mono ?_); rintro e w' ⟨rfl, rfl⟩)
      | (go_at_call 44; (with_reducible refine (C4.out _).mono ?_); rintro e w' ⟨rfl, rfl⟩)
      | (go_at_call 44; (with_reducible refine (C5.out _).mono ?_); rintro e w' ⟨rfl, rfl⟩))
    go_ret
    exact ⟨by simp, by go_grown⟩
end Go.Proofs.Ytdoledckkbcihaa
