/- spec.l11Ok, spec.ValidFeature -/
import Derived.Test.YtpcfhfnlpcpofabTraitOf
import Derived.Test.YtpcfhfnlpcpofabSpecOk
namespace Go.Proofs.Ytpcfhfnlpcpofab
open Go.RowKit
set_option linter.unusedVariables false
set_option linter.unusedSimpArgs false
set_option maxRecDepth 20000
theorem featB_no {k s v : Int} (h : inB 0 63 s = false) : featB k s v = false := by
  have h0 : ¬ s = 0 := by intro e; subst e; revert h; decide
  unfold featB
  rw [h]
  simp [h0]
theorem featB_1 {s v : Int} (h : inB 0 63 s = true) : featB 1 s v = inB 0 (s - 1) v := by unfold featB; rw [if_pos rfl, h]; rfl
theorem featB_7 {s v : Int} (h : inB 0 63 s = true) : featB 7 s v = inB 1 512 v := by unfold featB; rw [if_neg (by omega), if_pos rfl, h]; rfl
theorem featB_8 (s v : Int) : featB 8 s v = (inB 1 8000 v && decide (s = 0)) := by unfold featB; rw [if_neg (by omega), if_neg (by omega), if_pos rfl]
theorem featB_2 {k s v : Int} (h : inB 0 63 s = true) (h1 : ¬ k = 1) (h7 : ¬ k = 7) (h8 : ¬ k = 8) : featB k s v = (inB 1 8 k && decide (v = 0)) := by
  unfold featB
  rw [if_neg h1, if_neg h7, if_neg h8, h]
  have e : inB 2 6 k = inB 1 8 k := by rw [Bool.eq_iff_iff, inB_iff, inB_iff]; omega
  rw [e]
  cases inB 1 8 k <;> simp
set_option maxHeartbeats 2000000 in
theorem l11Ok_any (k s v : Int) (w : World) :
    Calls Try.prog 59 #[.agg #[.int .i64 k, .int .i64 s, .int .i64 v]] w fun e w' => e = .returned (.bool (featB k s v)) ∧ Below w.heap.size w w' := by
  have IS := Lib.hid (fun w => l00In_any s 0 63 w)
  cases q : inB 0 63 s with
  | false =>
    rw [q] at IS
    rw [featB_no q]
    clear q
    go_enter Try.func59, Try.ntmps59
    go_wp2_with fail
    refine (IS.out _).mono ?_
    rintro e _ ⟨rfl, rfl⟩
    go_wp2
    go_ret
    exact ⟨rfl, by go_grown⟩
  | true =>
    rw [q] at IS
    obtain ⟨q0, q1⟩ := inB_iff.1 q
    by_cases h1 : k = 1
    · subst h1
      have IV := Lib.hid (fun w => l00In_any v 0 (s - 1) w)
      rw [featB_1 q]
      generalize inB 0 (s - 1) v = r at IV ⊢
      clear q
      go_enter Try.func59, Try.ntmps59
      go_wp2_with fail
      refine (IS.out _).mono ?_
      rintro e _ ⟨rfl, rfl⟩
      go_wp2_with fail
      refine (IV.out _).mono ?_
      rintro e _ ⟨rfl, rfl⟩
      go_wp2
      go_ret
      exact ⟨rfl, by go_grown⟩
    by_cases h7 : k = 7
    · subst h7
      have IV := Lib.hid (fun w => l00In_any v 1 512 w)
      rw [featB_7 q]
      generalize inB 1 512 v = r at IV ⊢
      clear q h1
      go_enter Try.func59, Try.ntmps59
      go_wp2_with fail
      refine (IS.out _).mono ?_
      rintro e _ ⟨rfl, rfl⟩
      go_wp2_with fail
      refine (IV.out _).mono ?_
      rintro e _ ⟨rfl, rfl⟩
      go_wp2
      go_ret
      exact ⟨rfl, by go_grown⟩
    by_cases h8 : k = 8
    · subst h8
      have IV := Lib.hid (fun w => l00In_any v 1 8000 w)
      rw [featB_8]
      generalize inB 1 8000 v = r at IV ⊢
      clear q h1 h7
      by_cases h0 : s = 0
      · subst h0
        go_enter Try.func59, Try.ntmps59
        go_wp2_with fail
        refine (IS.out _).mono ?_
        rintro e _ ⟨rfl, rfl⟩
        go_wp2_with fail
        refine (IV.out _).mono ?_
        rintro e _ ⟨rfl, rfl⟩
        go_wp2
        go_ret
        exact ⟨ret_bool (by simp), by go_grown⟩
      · have b0 : (s == 0) = false := by simp [h0]
        have HZ := Lib.hid h0
        clear h0
        go_enter Try.func59, Try.ntmps59
        go_wp2_with fail
        refine (IS.out _).mono ?_
        rintro e _ ⟨rfl, rfl⟩
        go_wp2
        go_ret
        exact ⟨ret_bool (by simp [HZ.out]), by go_grown⟩
    have IV := Lib.hid (fun w => l00In_any k 1 8 w)
    rw [featB_2 q h1 h7 h8]
    have b1 : (k == 1) = false := by simp [h1]
    have b7 : (k == 7) = false := by simp [h7]
    have b8 : (k == 8) = false := by simp [h8]
    have bv : (v == 0) = decide (v = 0) := by by_cases h : v = 0 <;> simp [h]
    generalize decide (v = 0) = z at bv ⊢
    generalize inB 1 8 k = r at IV ⊢
    clear q h1 h7 h8
    cases r
    all_goals
      go_enter Try.func59, Try.ntmps59
      go_wp2_with fail
      refine (IS.out _).mono ?_
      rintro e _ ⟨rfl, rfl⟩
      go_wp2_with fail
      refine (IV.out _).mono ?_
      rintro e _ ⟨rfl, rfl⟩
      go_wp2
      go_ret
      exact ⟨ret_bool (by simp), by go_grown⟩
set_option maxHeartbeats 1000000 in
theorem specValidFeature_r (k s v : Int) (w : World) :
    Calls Try.prog 14 #[.agg #[.int .i64 k, .int .i64 s, .int .i64 v]] w fun e w' => e = .returned (.bool (featB k s v)) ∧ Below w.heap.size w w' := by
  have OK := Lib.hid (fun w => l11Ok_any k s v w)
  generalize featB k s v = q at OK ⊢
  go_enter Try.func14, Try.ntmps14
  go_wp2_with fail
  refine (OK.out _).mono ?_
  rintro e w1 ⟨rfl, hb1⟩
  go_wp2
  go_ret
  exact ⟨rfl, Below.trans (by go_grown) (hb1.mono (by simp))⟩
theorem specValidFeature_g (e : FeatureV) (w : World) :
    Calls Try.prog 14 #[.agg #[.int .i64 e.f0, .int .i64 e.f1, .int .i64 e.f2]] w fun x w' => x = .returned (.bool (featB e.f0 e.f1 e.f2)) ∧ Below w.heap.size w w' := specValidFeature_r e.f0 e.f1 e.f2 w
theorem validFeature_g (e : FeatureV) (w : World) :
    Calls Try.prog 16 #[.agg #[.int .i64 e.f0, .int .i64 e.f1, .int .i64 e.f2]] w fun x w' => x = .returned (.bool (featB e.f0 e.f1 e.f2)) ∧ Below w.heap.size w w' := validFeature_any e.f0 e.f1 e.f2 w
end Go.Proofs.Ytpcfhfnlpcpofab
