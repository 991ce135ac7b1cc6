/- laws.toClock, laws.eqClock, laws.toLocked, laws.eqLocked -/
import Derived.Test.YtidedgcmpkahgaaSlices
namespace Go.Proofs.Ytidedgcmpkahgaa
open Go.RowKit
set_option linter.unusedVariables false
set_option maxHeartbeats 1000000 in
theorem toClock_any (c l h p s : Int) (w : World) :
    Calls Try.prog 20 #[.agg #[.int .i64 c, .int .i64 l, .int .i64 h, .int .i64 p, .int .i64 s]] w fun e w' => e = .returned (.agg #[.int .i64 c, .int .i64 l, .int .i64 h, .int .i64 p, .int .i64 s]) ∧ Below w.heap.size w w' := by
  go_enter Try.func20, Try.ntmps20
  go_wp2
  refine bodyPost_ret (v := .agg #[.int .i64 c, .int .i64 l, .int .i64 h, .int .i64 p, .int .i64 s]) (by simp [results, Try.results20, go_sem]) rfl ⟨rfl, ?_⟩
  go_grown
set_option maxHeartbeats 1000000 in
theorem toLocked_any (p o : Int) (w : World) :
    Calls Try.prog 21 #[.agg #[.int .i64 p, .int .i64 o]] w fun e w' => e = .returned (.agg #[.int .i64 p, .int .i64 o]) ∧ Below w.heap.size w w' := by
  go_enter Try.func21, Try.ntmps21
  go_wp2
  refine bodyPost_ret (v := .agg #[.int .i64 p, .int .i64 o]) (by simp [results, Try.results21, go_sem]) rfl ⟨rfl, ?_⟩
  go_grown
set_option maxHeartbeats 1000000 in
theorem eqLocked_refl (p o : Int) (w : World) :
    Calls Try.prog 23 #[.agg #[.int .i64 p, .int .i64 o], .agg #[.int .i64 p, .int .i64 o]] w fun e w' => e = .returned (.bool true) ∧ Below w.heap.size w w' := by
  have e1 : (o != o) = false := by simp
  have e4 : (p != p) = false := by simp
  go_enter Try.func23, Try.ntmps23
  go_wp2
  go_ret
  exact ⟨rfl, by go_grown⟩
end Go.Proofs.Ytidedgcmpkahgaa
