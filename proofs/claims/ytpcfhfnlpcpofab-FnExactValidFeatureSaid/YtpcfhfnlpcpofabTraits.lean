/- impl's traits: valid and feature of each -/
import Derived.Test.YtpcfhfnlpcpofabSliceCells
import Derived.Test.YtpcfhfnlpcpofabRecFeature
import Derived.Test.YtpcfhfnlpcpofabBoxF
namespace Go.Proofs.Ytpcfhfnlpcpofab
open Go.RowKit
set_option linter.unusedVariables false
set_option linter.unusedSimpArgs false
set_option maxRecDepth 20000
set_option maxHeartbeats 1000000 in
theorem sectorValid_any (s : Int) (w : World) :
    Calls Try.prog 158 #[.agg #[.int .i64 s]] w fun e w' => e = .returned (.bool (inB 0 63 s)) ∧ Below w.heap.size w w' := by
  have IP := Lib.hid (fun w => isPlace_any s 64 w (by omega) (by omega))
  rw [show (64 : Int) - 1 = 63 from rfl] at IP
  generalize inB 0 63 s = q at IP ⊢
  go_enter Try.func158, Try.ntmps158
  have FB := Lib.hid (Below.refl w.heap.size w)
  have FN : w.heap.size ≤ w.heap.size := Nat.le_refl _
  go_wp2_with fail
  refine (IP.out _).mono ?_
  rintro e w1 ⟨rfl, hb1⟩
  have hbE1 : Below w.heap.size w w1 := Below.trans (by go_grown) (hb1.mono (by simp <;> omega))
  have S : Hid (BoxF w1 w.heap.size #[.int .i64 s]) := Lib.hid (BoxF.below (boxF1 (by simp [go_sem])) hb1 (by simp <;> omega))
  have hlS : w.heap.size < w1.heap.size := Nat.lt_of_lt_of_le (by simp <;> omega) hb1.size
  replace FB := Lib.hid (FB.out.trans (hbE1.mono FN))
  replace FN := Nat.le_trans FN hbE1.size
  clear hb1 hbE1
  go_wp2
  go_ret
  exact ⟨rfl, FB.out⟩
set_option maxHeartbeats 2000000 in
theorem dupValid_any (s v : Int) (w : World) :
    Calls Try.prog 168 #[.agg #[.int .i64 s, .int .i64 v]] w fun e w' => e = .returned (.bool (inB 0 63 s && inB 0 (s - 1) v)) ∧ Below w.heap.size w w' := by
  have SV := Lib.hid (fun w => sectorValid_any s w)
  cases q : inB 0 63 s with
  | false =>
    rw [q] at SV
    clear q
    simp only [Bool.false_and]
    go_enter Try.func168, Try.ntmps168
    have FB := Lib.hid (Below.refl w.heap.size w)
    have FN : w.heap.size ≤ w.heap.size := Nat.le_refl _
    go_wp2_with fail
    refine (SV.out _).mono ?_
    rintro e w1 ⟨rfl, hb1⟩
    have hbE1 : Below w.heap.size w w1 := Below.trans (by go_grown) (hb1.mono (by simp <;> omega))
    have S : Hid (BoxF w1 w.heap.size #[.int .i64 s, .int .i64 v]) := Lib.hid (BoxF.below (boxF2 (by simp [go_sem]) (by simp [go_sem])) hb1 (by simp <;> omega))
    have hlS : w.heap.size < w1.heap.size := Nat.lt_of_lt_of_le (by simp <;> omega) hb1.size
    replace FB := Lib.hid (FB.out.trans (hbE1.mono FN))
    replace FN := Nat.le_trans FN hbE1.size
    clear hb1 hbE1
    go_wp2
    go_ret
    exact ⟨rfl, FB.out⟩
  | true =>
    rw [q] at SV
    obtain ⟨q0, q1⟩ := inB_iff.1 q
    have IP := Lib.hid (fun w => isPlace_any v s w (by omega) (by omega))
    (try simp only [Bool.true_and])
    generalize inB 0 (s - 1) v = r at IP ⊢
    clear q q0 q1
    go_enter Try.func168, Try.ntmps168
    have FB := Lib.hid (Below.refl w.heap.size w)
    have FN : w.heap.size ≤ w.heap.size := Nat.le_refl _
    go_wp2_with fail
    refine (SV.out _).mono ?_
    rintro e w1 ⟨rfl, hb1⟩
    have hbE1 : Below w.heap.size w w1 := Below.trans (by go_grown) (hb1.mono (by simp <;> omega))
    have S : Hid (BoxF w1 w.heap.size #[.int .i64 s, .int .i64 v]) := Lib.hid (BoxF.below (boxF2 (by simp [go_sem]) (by simp [go_sem])) hb1 (by simp <;> omega))
    have hlS : w.heap.size < w1.heap.size := Nat.lt_of_lt_of_le (by simp <;> omega) hb1.size
    replace FB := Lib.hid (FB.out.trans (hbE1.mono FN))
    replace FN := Nat.le_trans FN hbE1.size
    clear hb1 hbE1
    obtain ⟨xS0, yS0⟩ := S.out 0 _ rfl
    obtain ⟨xS1, yS1⟩ := S.out 1 _ rfl
    go_wp2_with fail
    refine (IP.out _).mono ?_
    rintro e w2 ⟨rfl, hb2⟩
    clear xS0 yS0 xS1 yS1
    have hbE2 : Below w1.heap.size w1 w2 := Below.trans (by go_grown) (hb2.mono (by simp <;> omega))
    replace S := Lib.hid (S.out.below hbE2 hlS)
    replace hlS := Nat.lt_of_lt_of_le hlS hbE2.size
    replace FB := Lib.hid (FB.out.trans (hbE2.mono FN))
    replace FN := Nat.le_trans FN hbE2.size
    clear hb2 hbE2
    go_wp2
    go_ret
    exact ⟨rfl, FB.out⟩
set_option maxHeartbeats 2000000 in
theorem weakValid_any (s v : Int) (w : World) :
    Calls Try.prog 162 #[.agg #[.int .i64 s, .int .i64 v]] w fun e w' => e = .returned (.bool (inB 0 63 s && inB 1 512 v)) ∧ Below w.heap.size w w' := by
  have SV := Lib.hid (fun w => sectorValid_any s w)
  cases q : inB 0 63 s with
  | false =>
    rw [q] at SV
    clear q
    simp only [Bool.false_and]
    go_enter Try.func162, Try.ntmps162
    have FB := Lib.hid (Below.refl w.heap.size w)
    have FN : w.heap.size ≤ w.heap.size := Nat.le_refl _
    go_wp2_with fail
    refine (SV.out _).mono ?_
    rintro e w1 ⟨rfl, hb1⟩
    have hbE1 : Below w.heap.size w w1 := Below.trans (by go_grown) (hb1.mono (by simp <;> omega))
    have S : Hid (BoxF w1 w.heap.size #[.int .i64 s, .int .i64 v]) := Lib.hid (BoxF.below (boxF2 (by simp [go_sem]) (by simp [go_sem])) hb1 (by simp <;> omega))
    have hlS : w.heap.size < w1.heap.size := Nat.lt_of_lt_of_le (by simp <;> omega) hb1.size
    replace FB := Lib.hid (FB.out.trans (hbE1.mono FN))
    replace FN := Nat.le_trans FN hbE1.size
    clear hb1 hbE1
    go_wp2
    go_ret
    exact ⟨rfl, FB.out⟩
  | true =>
    rw [q] at SV
    have WI := Lib.hid (fun w T x hx => within_b 1 512 v w T x hx)
    (try simp only [Bool.true_and])
    generalize inB 1 512 v = r at WI ⊢
    clear q
    go_enter Try.func162, Try.ntmps162
    have FB := Lib.hid (Below.refl w.heap.size w)
    have FN : w.heap.size ≤ w.heap.size := Nat.le_refl _
    go_wp2_with fail
    refine (SV.out _).mono ?_
    rintro e w1 ⟨rfl, hb1⟩
    have hbE1 : Below w.heap.size w w1 := Below.trans (by go_grown) (hb1.mono (by simp <;> omega))
    have S : Hid (BoxF w1 w.heap.size #[.int .i64 s, .int .i64 v]) := Lib.hid (BoxF.below (boxF2 (by simp [go_sem]) (by simp [go_sem])) hb1 (by simp <;> omega))
    have hlS : w.heap.size < w1.heap.size := Nat.lt_of_lt_of_le (by simp <;> omega) hb1.size
    replace FB := Lib.hid (FB.out.trans (hbE1.mono FN))
    replace FN := Nat.le_trans FN hbE1.size
    clear hb1 hbE1
    obtain ⟨xS0, yS0⟩ := S.out 0 _ rfl
    obtain ⟨xS1, yS1⟩ := S.out 1 _ rfl
    go_wp2_with fail
    refine (WI.out _ _ _ (by simp)).mono ?_
    rintro e w2 ⟨rfl, hb2⟩
    clear xS0 yS0 xS1 yS1
    have hbE2 : Below w1.heap.size w1 w2 := Below.trans (by go_grown) (hb2.mono (by simp <;> omega))
    replace S := Lib.hid (S.out.below hbE2 hlS)
    replace hlS := Nat.lt_of_lt_of_le hlS hbE2.size
    replace FB := Lib.hid (FB.out.trans (hbE2.mono FN))
    replace FN := Nat.le_trans FN hbE2.size
    clear hb2 hbE2
    go_wp2
    go_ret
    exact ⟨rfl, FB.out⟩
set_option maxHeartbeats 2000000 in
theorem longValid_any (v : Int) (w : World) :
    Calls Try.prog 137 #[.agg #[.int .i64 v]] w fun e w' => e = .returned (.bool (inB 1 8000 v)) ∧ Below w.heap.size w w' := by
  have WI := Lib.hid (fun w T x hx => within_b 1 8000 v w T x hx)
  generalize inB 1 8000 v = r at WI ⊢
  go_enter Try.func137, Try.ntmps137
  have FB := Lib.hid (Below.refl w.heap.size w)
  have FN : w.heap.size ≤ w.heap.size := Nat.le_refl _
  go_wp2_with fail
  refine (WI.out _ _ _ (by simp)).mono ?_
  rintro e w1 ⟨rfl, hb1⟩
  have hbE1 : Below w.heap.size w w1 := Below.trans (by go_grown) (hb1.mono (by simp <;> omega))
  have S : Hid (BoxF w1 w.heap.size #[.int .i64 v]) := Lib.hid (BoxF.below (boxF1 (by simp [go_sem])) hb1 (by simp <;> omega))
  have hlS : w.heap.size < w1.heap.size := Nat.lt_of_lt_of_le (by simp <;> omega) hb1.size
  replace FB := Lib.hid (FB.out.trans (hbE1.mono FN))
  replace FN := Nat.le_trans FN hbE1.size
  clear hb1 hbE1
  go_wp2
  go_ret
  exact ⟨rfl, FB.out⟩
set_option maxHeartbeats 1000000 in
theorem duplicateFeature_any (s v : Int) (w : World) :
    Calls Try.prog 167 #[.agg #[.int .i64 s, .int .i64 v]] w fun e w' => e = .returned (.agg #[.int .i64 1, .int .i64 s, .int .i64 v]) ∧ Below w.heap.size w w' := by
  go_enter Try.func167, Try.ntmps167
  go_wp2
  refine bodyPost_ret (v := .agg #[.int .i64 1, .int .i64 s, .int .i64 v]) (by simp [results, Try.results167, go_sem]) rfl ⟨rfl, ?_⟩
  go_grown
set_option maxHeartbeats 1000000 in
theorem foreignFeature_any (s : Int) (w : World) :
    Calls Try.prog 182 #[.agg #[.int .i64 s]] w fun e w' => e = .returned (.agg #[.int .i64 2, .int .i64 s, .int .i64 0]) ∧ Below w.heap.size w w' := by
  go_enter Try.func182, Try.ntmps182
  go_wp2
  refine bodyPost_ret (v := .agg #[.int .i64 2, .int .i64 s, .int .i64 0]) (by simp [results, Try.results182, go_sem]) rfl ⟨rfl, ?_⟩
  go_grown
set_option maxHeartbeats 1000000 in
theorem badIdFeature_any (s : Int) (w : World) :
    Calls Try.prog 187 #[.agg #[.int .i64 s]] w fun e w' => e = .returned (.agg #[.int .i64 3, .int .i64 s, .int .i64 0]) ∧ Below w.heap.size w w' := by
  go_enter Try.func187, Try.ntmps187
  go_wp2
  refine bodyPost_ret (v := .agg #[.int .i64 3, .int .i64 s, .int .i64 0]) (by simp [results, Try.results187, go_sem]) rfl ⟨rfl, ?_⟩
  go_grown
set_option maxHeartbeats 1000000 in
theorem badDataFeature_any (s : Int) (w : World) :
    Calls Try.prog 191 #[.agg #[.int .i64 s]] w fun e w' => e = .returned (.agg #[.int .i64 4, .int .i64 s, .int .i64 0]) ∧ Below w.heap.size w w' := by
  go_enter Try.func191, Try.ntmps191
  go_wp2
  refine bodyPost_ret (v := .agg #[.int .i64 4, .int .i64 s, .int .i64 0]) (by simp [results, Try.results191, go_sem]) rfl ⟨rfl, ?_⟩
  go_grown
set_option maxHeartbeats 1000000 in
theorem noDataFeature_any (s : Int) (w : World) :
    Calls Try.prog 194 #[.agg #[.int .i64 s]] w fun e w' => e = .returned (.agg #[.int .i64 5, .int .i64 s, .int .i64 0]) ∧ Below w.heap.size w w' := by
  go_enter Try.func194, Try.ntmps194
  go_wp2
  refine bodyPost_ret (v := .agg #[.int .i64 5, .int .i64 s, .int .i64 0]) (by simp [results, Try.results194, go_sem]) rfl ⟨rfl, ?_⟩
  go_grown
set_option maxHeartbeats 1000000 in
theorem deletedFeature_any (s : Int) (w : World) :
    Calls Try.prog 197 #[.agg #[.int .i64 s]] w fun e w' => e = .returned (.agg #[.int .i64 6, .int .i64 s, .int .i64 0]) ∧ Below w.heap.size w w' := by
  go_enter Try.func197, Try.ntmps197
  go_wp2
  refine bodyPost_ret (v := .agg #[.int .i64 6, .int .i64 s, .int .i64 0]) (by simp [results, Try.results197, go_sem]) rfl ⟨rfl, ?_⟩
  go_grown
set_option maxHeartbeats 1000000 in
theorem weakFeature_any (s v : Int) (w : World) :
    Calls Try.prog 161 #[.agg #[.int .i64 s, .int .i64 v]] w fun e w' => e = .returned (.agg #[.int .i64 7, .int .i64 s, .int .i64 v]) ∧ Below w.heap.size w w' := by
  go_enter Try.func161, Try.ntmps161
  go_wp2
  refine bodyPost_ret (v := .agg #[.int .i64 7, .int .i64 s, .int .i64 v]) (by simp [results, Try.results161, go_sem]) rfl ⟨rfl, ?_⟩
  go_grown
set_option maxHeartbeats 1000000 in
theorem longFeature_any (v : Int) (w : World) :
    Calls Try.prog 77 #[.agg #[.int .i64 v]] w fun e w' => e = .returned (.agg #[.int .i64 8, .int .i64 0, .int .i64 v]) ∧ Below w.heap.size w w' := by
  go_enter Try.func77, Try.ntmps77
  go_wp2
  refine bodyPost_ret (v := .agg #[.int .i64 8, .int .i64 0, .int .i64 v]) (by simp [results, Try.results77, go_sem]) rfl ⟨rfl, ?_⟩
  go_grown
end Go.Proofs.Ytpcfhfnlpcpofab
