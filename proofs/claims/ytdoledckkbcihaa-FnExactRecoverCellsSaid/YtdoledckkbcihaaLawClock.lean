/- laws.toClock, laws.eqClock, laws.toLocked, laws.eqLocked -/
import Derived.Test.YtdoledckkbcihaaSlices
namespace Go.Proofs.Ytdoledckkbcihaa
open Go.RowKit
set_option linter.unusedVariables false
set_option maxHeartbeats 1000000 in
theorem toClock_any (c l h p s : Int) (w : World) :
    Calls Try.prog 28 #[.agg #[.int .i64 c, .int .i64 l, .int .i64 h, .int .i64 p, .int .i64 s]] w fun e w' => e = .returned (.agg #[.int .i64 c, .int .i64 l, .int .i64 h, .int .i64 p, .int .i64 s]) ∧ Below w.heap.size w w' := by
  go_enter Try.func28, Try.ntmps28
  go_wp2
  refine bodyPost_ret (v := .agg #[.int .i64 c, .int .i64 l, .int .i64 h, .int .i64 p, .int .i64 s]) (by simp [results, Try.results28, go_sem]) rfl ⟨rfl, ?_⟩
  go_grown
end Go.Proofs.Ytdoledckkbcihaa
