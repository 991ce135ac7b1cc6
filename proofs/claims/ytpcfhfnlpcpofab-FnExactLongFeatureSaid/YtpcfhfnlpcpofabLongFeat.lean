/- impl.LongFeature, spec.LongFeature -/
import Derived.Test.YtpcfhfnlpcpofabValidCells
import Derived.Test.YtpcfhfnlpcpofabSpecValidCells
import Derived.Test.YtpcfhfnlpcpofabSliceCells
import Derived.Test.YtpcfhfnlpcpofabRecFeature
import Derived.Test.YtpcfhfnlpcpofabBoxF
namespace Go.Proofs.Ytpcfhfnlpcpofab
open Go.RowKit
set_option linter.unusedVariables false
set_option linter.unusedSimpArgs false
set_option maxRecDepth 20000
def longB (s : ByteArray) (n : Int) : Bool := validCells s && (inB 1 8000 n && decide (n < (s.size : Int)))
def longV (s : ByteArray) (n : Int) : FeatureV := if longB s n = true then ⟨8, 0, (s.size : Int) - n⟩ else ⟨0, 0, 0⟩
set_option maxHeartbeats 1000000 in
theorem longTrait_any (m : Int) (w : World) :
    Calls Try.prog 77 #[.agg #[.int .i64 m]] w fun e w' => e = .returned (.agg #[.int .i64 8, .int .i64 0, .int .i64 m]) ∧ Below w.heap.size w w' := by
  go_enter Try.func77, Try.ntmps77
  go_wp2
  refine bodyPost_ret (v := .agg #[.int .i64 8, .int .i64 0, .int .i64 m]) (by simp [results, Try.results77, go_sem]) rfl ⟨rfl, ?_⟩
  go_grown
set_option maxHeartbeats 1000000 in
theorem specValidCells_any (s : ByteArray) (w : World) (hs : s.size ≤ maxLen) :
    Calls Try.prog 73 #[.string s] w fun e w' => e = .returned (.bool (validCells s)) ∧ Below w.heap.size w w' := by
  have VC := Lib.hid (fun w => l02Cells_any s w hs)
  clear hs
  go_enter Try.func73, Try.ntmps73
  go_wp2_with fail
  refine (VC.out _).mono ?_
  rintro e w1 ⟨rfl, rfl⟩
  go_wp2
  go_ret
  exact ⟨rfl, Below.refl _ _⟩
def Feat2 (r : FeatureV) (b : Bool) (w : World) (e : Ending) (w' : World) : Prop := e = .returned (.tuple #[.agg #[.int .i64 r.f0, .int .i64 r.f1, .int .i64 r.f2], .bool b]) ∧ Below w.heap.size w w'
-- made by mk_longfeat.py
set_option maxHeartbeats 4000000 in
theorem longFeature_any (s : ByteArray) (n : Int) (hs : s.size ≤ 1048576) (w : World) :
    Calls Try.prog 29 #[.string s, .int .i64 n] w (Feat2 (longV s n) (longB s n) w) := by
  have hsm : s.size ≤ maxLen := by unfold maxLen; omega
  have vc := fun w => validCells_any s w hsm
  have wi := fun w T x hx => within_b 1 8000 n w T x hx
  unfold longV
  obtain ⟨b, hb⟩ : ∃ b, longB s n = b := ⟨_, rfl⟩
  rw [hb]
  unfold longB at hb
  cases h1 : validCells s with
  | false =>
    rw [h1] at vc hb
    have VC := Lib.hid vc
    obtain rfl : b = false := by simpa using hb.symm
    rw [if_neg (by simp)]
    clear hb vc wi
    go_enter Try.func29, Try.ntmps29
    have FB := Lib.hid (Below.refl w.heap.size w)
    have FN : w.heap.size ≤ w.heap.size := Nat.le_refl _
    go_wp2_with fail
    refine (VC.out _).mono ?_
    rintro e w1 ⟨rfl, hb1⟩
    have hbE1 : Below w.heap.size w w1 := Below.trans (by go_grown) (hb1.mono (by simp <;> omega))
    have R : Hid (BoxF w1 w.heap.size #[.int .i64 0, .int .i64 0, .int .i64 0]) := Lib.hid (BoxF.below (boxF3 (by simp [go_sem]) (by simp [go_sem]) (by simp [go_sem])) hb1 (by simp <;> omega))
    have hlR : w.heap.size < w1.heap.size := Nat.lt_of_lt_of_le (by simp <;> omega) hb1.size
    replace FB := Lib.hid (FB.out.trans (hbE1.mono FN))
    replace FN := Nat.le_trans FN hbE1.size
    clear hb1 hbE1
    obtain ⟨xR0, yR0⟩ := R.out 0 _ rfl
    obtain ⟨xR1, yR1⟩ := R.out 1 _ rfl
    obtain ⟨xR2, yR2⟩ := R.out 2 _ rfl
    go_wp2
    refine bodyPost_ret (v := .tuple #[.agg #[.int .i64 0, .int .i64 0, .int .i64 0], .bool false]) (by simp [results, Try.results29, go_sem, xR0, yR0, xR1, yR1, xR2, yR2]) rfl ⟨rfl, ?_⟩
    exact (((FB.out).setCell (by simp <;> omega) _).setCell (by simp <;> omega) _).setCell (by simp <;> omega) _
  | true =>
    rw [h1] at vc hb
    have VC := Lib.hid vc
    simp only [Bool.true_and] at hb
    cases h2 : inB 1 8000 n with
    | false =>
      rw [h2] at wi hb
      have WI := Lib.hid wi
      obtain rfl : b = false := by simpa using hb.symm
      rw [if_neg (by simp)]
      clear hb vc wi h1 h2
      go_enter Try.func29, Try.ntmps29
      have FB := Lib.hid (Below.refl w.heap.size w)
      have FN : w.heap.size ≤ w.heap.size := Nat.le_refl _
      go_wp2_with fail
      refine (VC.out _).mono ?_
      rintro e w1 ⟨rfl, hb1⟩
      have hbE1 : Below w.heap.size w w1 := Below.trans (by go_grown) (hb1.mono (by simp <;> omega))
      have R : Hid (BoxF w1 w.heap.size #[.int .i64 0, .int .i64 0, .int .i64 0]) := Lib.hid (BoxF.below (boxF3 (by simp [go_sem]) (by simp [go_sem]) (by simp [go_sem])) hb1 (by simp <;> omega))
      have hlR : w.heap.size < w1.heap.size := Nat.lt_of_lt_of_le (by simp <;> omega) hb1.size
      replace FB := Lib.hid (FB.out.trans (hbE1.mono FN))
      replace FN := Nat.le_trans FN hbE1.size
      clear hb1 hbE1
      go_wp2_with fail
      refine (WI.out _ _ _ (by simp)).mono ?_
      rintro e w2 ⟨rfl, hb2⟩
      have hbE2 : Below w1.heap.size w1 w2 := Below.trans (by go_grown) (hb2.mono (by simp <;> omega))
      replace R := Lib.hid (R.out.below hbE2 hlR)
      replace hlR := Nat.lt_of_lt_of_le hlR hbE2.size
      replace FB := Lib.hid (FB.out.trans (hbE2.mono FN))
      replace FN := Nat.le_trans FN hbE2.size
      clear hb2 hbE2
      obtain ⟨xR0, yR0⟩ := R.out 0 _ rfl
      obtain ⟨xR1, yR1⟩ := R.out 1 _ rfl
      obtain ⟨xR2, yR2⟩ := R.out 2 _ rfl
      go_wp2
      refine bodyPost_ret (v := .tuple #[.agg #[.int .i64 0, .int .i64 0, .int .i64 0], .bool false]) (by simp [results, Try.results29, go_sem, xR0, yR0, xR1, yR1, xR2, yR2]) rfl ⟨rfl, ?_⟩
      exact (((FB.out).setCell (by simp <;> omega) _).setCell (by simp <;> omega) _).setCell (by simp <;> omega) _
    | true =>
      rw [h2] at wi hb
      have WI := Lib.hid wi
      obtain ⟨n0, n1⟩ := inB_iff.1 h2
      simp only [Bool.true_and] at hb
      have hwr : wrap64 ((s.size : Int) - n) = (s.size : Int) - n := by unfold wrap64; omega
      by_cases h3 : n < (s.size : Int)
      case neg =>
        obtain rfl : b = false := by rw [← hb]; simp [h3]
        rw [if_neg (by simp)]
        have h4 : (s.size : Int) - n ≤ 0 := by omega
        have h5 : (s.size : Int) ≤ n := by omega
        clear hb vc wi h1 h2 h3
        go_enter Try.func29, Try.ntmps29
        have FB := Lib.hid (Below.refl w.heap.size w)
        have FN : w.heap.size ≤ w.heap.size := Nat.le_refl _
        go_wp2_with fail
        refine (VC.out _).mono ?_
        rintro e w1 ⟨rfl, hb1⟩
        have hbE1 : Below w.heap.size w w1 := Below.trans (by go_grown) (hb1.mono (by simp <;> omega))
        have R : Hid (BoxF w1 w.heap.size #[.int .i64 0, .int .i64 0, .int .i64 0]) := Lib.hid (BoxF.below (boxF3 (by simp [go_sem]) (by simp [go_sem]) (by simp [go_sem])) hb1 (by simp <;> omega))
        have hlR : w.heap.size < w1.heap.size := Nat.lt_of_lt_of_le (by simp <;> omega) hb1.size
        replace FB := Lib.hid (FB.out.trans (hbE1.mono FN))
        replace FN := Nat.le_trans FN hbE1.size
        clear hb1 hbE1
        go_wp2_with fail
        refine (WI.out _ _ _ (by simp)).mono ?_
        rintro e w2 ⟨rfl, hb2⟩
        have hbE2 : Below w1.heap.size w1 w2 := Below.trans (by go_grown) (hb2.mono (by simp <;> omega))
        replace R := Lib.hid (R.out.below hbE2 hlR)
        replace hlR := Nat.lt_of_lt_of_le hlR hbE2.size
        replace FB := Lib.hid (FB.out.trans (hbE2.mono FN))
        replace FN := Nat.le_trans FN hbE2.size
        clear hb2 hbE2
        obtain ⟨xR0, yR0⟩ := R.out 0 _ rfl
        obtain ⟨xR1, yR1⟩ := R.out 1 _ rfl
        obtain ⟨xR2, yR2⟩ := R.out 2 _ rfl
        go_wp2
        refine bodyPost_ret (v := .tuple #[.agg #[.int .i64 0, .int .i64 0, .int .i64 0], .bool false]) (by simp [results, Try.results29, go_sem, xR0, yR0, xR1, yR1, xR2, yR2]) rfl ⟨rfl, ?_⟩
        exact (((FB.out).setCell (by simp <;> omega) _).setCell (by simp <;> omega) _).setCell (by simp <;> omega) _
      obtain rfl : b = true := by rw [← hb]; simp [h3]
      rw [if_pos rfl]
      have h4 : ¬ (s.size : Int) - n ≤ 0 := by omega
      have h5 : ¬ (s.size : Int) ≤ n := by omega
      have LT := Lib.hid (fun w => longTrait_any ((s.size : Int) - n) w)
      clear hb vc wi h1 h2 h3
      go_enter Try.func29, Try.ntmps29
      have FB := Lib.hid (Below.refl w.heap.size w)
      have FN : w.heap.size ≤ w.heap.size := Nat.le_refl _
      go_wp2_with fail
      refine (VC.out _).mono ?_
      rintro e w1 ⟨rfl, hb1⟩
      have hbE1 : Below w.heap.size w w1 := Below.trans (by go_grown) (hb1.mono (by simp <;> omega))
      have R : Hid (BoxF w1 w.heap.size #[.int .i64 0, .int .i64 0, .int .i64 0]) := Lib.hid (BoxF.below (boxF3 (by simp [go_sem]) (by simp [go_sem]) (by simp [go_sem])) hb1 (by simp <;> omega))
      have hlR : w.heap.size < w1.heap.size := Nat.lt_of_lt_of_le (by simp <;> omega) hb1.size
      replace FB := Lib.hid (FB.out.trans (hbE1.mono FN))
      replace FN := Nat.le_trans FN hbE1.size
      clear hb1 hbE1
      go_wp2_with fail
      refine (WI.out _ _ _ (by simp)).mono ?_
      rintro e w2 ⟨rfl, hb2⟩
      have hbE2 : Below w1.heap.size w1 w2 := Below.trans (by go_grown) (hb2.mono (by simp <;> omega))
      replace R := Lib.hid (R.out.below hbE2 hlR)
      replace hlR := Nat.lt_of_lt_of_le hlR hbE2.size
      replace FB := Lib.hid (FB.out.trans (hbE2.mono FN))
      replace FN := Nat.le_trans FN hbE2.size
      clear hb2 hbE2
      go_wp2_with fail
      refine (LT.out _).mono ?_
      rintro e w3 ⟨rfl, hb3⟩
      have hbE3 : Below w2.heap.size w2 w3 := Below.trans (by go_grown) (hb3.mono (by simp <;> omega))
      replace R := Lib.hid (R.out.below hbE3 hlR)
      replace hlR := Nat.lt_of_lt_of_le hlR hbE3.size
      replace FB := Lib.hid (FB.out.trans (hbE3.mono FN))
      replace FN := Nat.le_trans FN hbE3.size
      clear hb3 hbE3
      obtain ⟨xR0, yR0⟩ := R.out 0 _ rfl
      obtain ⟨xR1, yR1⟩ := R.out 1 _ rfl
      obtain ⟨xR2, yR2⟩ := R.out 2 _ rfl
      go_wp2
      refine bodyPost_ret (v := .tuple #[.agg #[.int .i64 8, .int .i64 0, .int .i64 ((s.size : Int) - n)], .bool true]) (by simp [results, Try.results29, go_sem, xR0, yR0, xR1, yR1, xR2, yR2]) rfl ⟨rfl, ?_⟩
      exact (((FB.out).setCell (by simp <;> omega) _).setCell (by simp <;> omega) _).setCell (by simp <;> omega) _
set_option maxHeartbeats 4000000 in
theorem specLongFeature_any (s : ByteArray) (n : Int) (hs : s.size ≤ 1048576) (w : World) :
    Calls Try.prog 28 #[.string s, .int .i64 n] w (Feat2 (longV s n) (longB s n) w) := by
  have hsm : s.size ≤ maxLen := by unfold maxLen; omega
  have vc := fun w => specValidCells_any s w hsm
  have wi := fun w => l00In_any n 1 8000 w
  unfold longV
  obtain ⟨b, hb⟩ : ∃ b, longB s n = b := ⟨_, rfl⟩
  rw [hb]
  unfold longB at hb
  cases h1 : validCells s with
  | false =>
    rw [h1] at vc hb
    have VC := Lib.hid vc
    obtain rfl : b = false := by simpa using hb.symm
    rw [if_neg (by simp)]
    clear hb vc wi
    go_enter Try.func28, Try.ntmps28
    have FB := Lib.hid (Below.refl w.heap.size w)
    have FN : w.heap.size ≤ w.heap.size := Nat.le_refl _
    go_wp2_with fail
    refine (VC.out _).mono ?_
    rintro e w1 ⟨rfl, hb1⟩
    have hbE1 : Below w.heap.size w w1 := Below.trans (by go_grown) (hb1.mono (by simp <;> omega))
    have R : Hid (BoxF w1 w.heap.size #[.int .i64 0, .int .i64 0, .int .i64 0]) := Lib.hid (BoxF.below (boxF3 (by simp [go_sem]) (by simp [go_sem]) (by simp [go_sem])) hb1 (by simp <;> omega))
    have hlR : w.heap.size < w1.heap.size := Nat.lt_of_lt_of_le (by simp <;> omega) hb1.size
    replace FB := Lib.hid (FB.out.trans (hbE1.mono FN))
    replace FN := Nat.le_trans FN hbE1.size
    clear hb1 hbE1
    obtain ⟨xR0, yR0⟩ := R.out 0 _ rfl
    obtain ⟨xR1, yR1⟩ := R.out 1 _ rfl
    obtain ⟨xR2, yR2⟩ := R.out 2 _ rfl
    go_wp2
    refine bodyPost_ret (v := .tuple #[.agg #[.int .i64 0, .int .i64 0, .int .i64 0], .bool false]) (by simp [results, Try.results28, go_sem, xR0, yR0, xR1, yR1, xR2, yR2]) rfl ⟨rfl, ?_⟩
    exact (((FB.out).setCell (by simp <;> omega) _).setCell (by simp <;> omega) _).setCell (by simp <;> omega) _
  | true =>
    rw [h1] at vc hb
    have VC := Lib.hid vc
    simp only [Bool.true_and] at hb
    cases h2 : inB 1 8000 n with
    | false =>
      rw [h2] at wi hb
      have WI := Lib.hid wi
      obtain rfl : b = false := by simpa using hb.symm
      rw [if_neg (by simp)]
      clear hb vc wi h1 h2
      go_enter Try.func28, Try.ntmps28
      have FB := Lib.hid (Below.refl w.heap.size w)
      have FN : w.heap.size ≤ w.heap.size := Nat.le_refl _
      go_wp2_with fail
      refine (VC.out _).mono ?_
      rintro e w1 ⟨rfl, hb1⟩
      have hbE1 : Below w.heap.size w w1 := Below.trans (by go_grown) (hb1.mono (by simp <;> omega))
      have R : Hid (BoxF w1 w.heap.size #[.int .i64 0, .int .i64 0, .int .i64 0]) := Lib.hid (BoxF.below (boxF3 (by simp [go_sem]) (by simp [go_sem]) (by simp [go_sem])) hb1 (by simp <;> omega))
      have hlR : w.heap.size < w1.heap.size := Nat.lt_of_lt_of_le (by simp <;> omega) hb1.size
      replace FB := Lib.hid (FB.out.trans (hbE1.mono FN))
      replace FN := Nat.le_trans FN hbE1.size
      clear hb1 hbE1
      go_wp2_with fail
      refine (WI.out _).mono ?_
      rintro e _ ⟨rfl, rfl⟩
      obtain ⟨xR0, yR0⟩ := R.out 0 _ rfl
      obtain ⟨xR1, yR1⟩ := R.out 1 _ rfl
      obtain ⟨xR2, yR2⟩ := R.out 2 _ rfl
      go_wp2
      refine bodyPost_ret (v := .tuple #[.agg #[.int .i64 0, .int .i64 0, .int .i64 0], .bool false]) (by simp [results, Try.results28, go_sem, xR0, yR0, xR1, yR1, xR2, yR2]) rfl ⟨rfl, ?_⟩
      exact (((FB.out).setCell (by simp <;> omega) _).setCell (by simp <;> omega) _).setCell (by simp <;> omega) _
    | true =>
      rw [h2] at wi hb
      have WI := Lib.hid wi
      obtain ⟨n0, n1⟩ := inB_iff.1 h2
      simp only [Bool.true_and] at hb
      have hwr : wrap64 ((s.size : Int) - n) = (s.size : Int) - n := by unfold wrap64; omega
      by_cases h3 : n < (s.size : Int)
      case neg =>
        obtain rfl : b = false := by rw [← hb]; simp [h3]
        rw [if_neg (by simp)]
        have h4 : (s.size : Int) - n ≤ 0 := by omega
        have h5 : (s.size : Int) ≤ n := by omega
        clear hb vc wi h1 h2 h3
        go_enter Try.func28, Try.ntmps28
        have FB := Lib.hid (Below.refl w.heap.size w)
        have FN : w.heap.size ≤ w.heap.size := Nat.le_refl _
        go_wp2_with fail
        refine (VC.out _).mono ?_
        rintro e w1 ⟨rfl, hb1⟩
        have hbE1 : Below w.heap.size w w1 := Below.trans (by go_grown) (hb1.mono (by simp <;> omega))
        have R : Hid (BoxF w1 w.heap.size #[.int .i64 0, .int .i64 0, .int .i64 0]) := Lib.hid (BoxF.below (boxF3 (by simp [go_sem]) (by simp [go_sem]) (by simp [go_sem])) hb1 (by simp <;> omega))
        have hlR : w.heap.size < w1.heap.size := Nat.lt_of_lt_of_le (by simp <;> omega) hb1.size
        replace FB := Lib.hid (FB.out.trans (hbE1.mono FN))
        replace FN := Nat.le_trans FN hbE1.size
        clear hb1 hbE1
        go_wp2_with fail
        refine (WI.out _).mono ?_
        rintro e _ ⟨rfl, rfl⟩
        obtain ⟨xR0, yR0⟩ := R.out 0 _ rfl
        obtain ⟨xR1, yR1⟩ := R.out 1 _ rfl
        obtain ⟨xR2, yR2⟩ := R.out 2 _ rfl
        go_wp2
        refine bodyPost_ret (v := .tuple #[.agg #[.int .i64 0, .int .i64 0, .int .i64 0], .bool false]) (by simp [results, Try.results28, go_sem, xR0, yR0, xR1, yR1, xR2, yR2]) rfl ⟨rfl, ?_⟩
        exact (((FB.out).setCell (by simp <;> omega) _).setCell (by simp <;> omega) _).setCell (by simp <;> omega) _
      obtain rfl : b = true := by rw [← hb]; simp [h3]
      rw [if_pos rfl]
      have h4 : ¬ (s.size : Int) - n ≤ 0 := by omega
      have h5 : ¬ (s.size : Int) ≤ n := by omega
      skip
      clear hb vc wi h1 h2 h3
      go_enter Try.func28, Try.ntmps28
      have FB := Lib.hid (Below.refl w.heap.size w)
      have FN : w.heap.size ≤ w.heap.size := Nat.le_refl _
      go_wp2_with fail
      refine (VC.out _).mono ?_
      rintro e w1 ⟨rfl, hb1⟩
      have hbE1 : Below w.heap.size w w1 := Below.trans (by go_grown) (hb1.mono (by simp <;> omega))
      have R : Hid (BoxF w1 w.heap.size #[.int .i64 0, .int .i64 0, .int .i64 0]) := Lib.hid (BoxF.below (boxF3 (by simp [go_sem]) (by simp [go_sem]) (by simp [go_sem])) hb1 (by simp <;> omega))
      have hlR : w.heap.size < w1.heap.size := Nat.lt_of_lt_of_le (by simp <;> omega) hb1.size
      replace FB := Lib.hid (FB.out.trans (hbE1.mono FN))
      replace FN := Nat.le_trans FN hbE1.size
      clear hb1 hbE1
      go_wp2_with fail
      refine (WI.out _).mono ?_
      rintro e _ ⟨rfl, rfl⟩
      obtain ⟨xR0, yR0⟩ := R.out 0 _ rfl
      obtain ⟨xR1, yR1⟩ := R.out 1 _ rfl
      obtain ⟨xR2, yR2⟩ := R.out 2 _ rfl
      go_wp2
      refine bodyPost_ret (v := .tuple #[.agg #[.int .i64 8, .int .i64 0, .int .i64 ((s.size : Int) - n)], .bool true]) (by simp [results, Try.results28, go_sem, xR0, yR0, xR1, yR1, xR2, yR2]) rfl ⟨rfl, ?_⟩
      exact (((FB.out).setCell (by simp <;> omega) _).setCell (by simp <;> omega) _).setCell (by simp <;> omega) _
end Go.Proofs.Ytpcfhfnlpcpofab
