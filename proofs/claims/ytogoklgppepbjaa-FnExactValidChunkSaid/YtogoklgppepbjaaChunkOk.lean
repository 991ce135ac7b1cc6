/- impl.ValidChunk, spec.ValidChunk -/
import Derived.Test.YtogoklgppepbjaaSpecOk
import Derived.Test.YtogoklgppepbjaaRecChunk
namespace Go.Proofs.Ytogoklgppepbjaa
open Go.RowKit
set_option linter.unusedVariables false
set_option linter.unusedSimpArgs false
set_option maxRecDepth 20000
def chunkB (e : ChunkV) : Bool := inB 1 4 e.f0 && decide (e.f1.size ≤ 8192)
set_option maxHeartbeats 2000000 in
theorem l13Chunk_any (e : ChunkV) (w : World) :
    Calls Try.prog 60 #[.agg #[.int .i64 e.f0, .string e.f1]] w fun x w' => x = .returned (.bool (chunkB e)) ∧ Below w.heap.size w w' := by
  have IS := Lib.hid (fun w => l00In_any e.f0 1 4 w)
  unfold chunkB
  cases q : inB 1 4 e.f0 with
  | false =>
    rw [q] at IS
    clear q
    go_enter Try.func60, Try.ntmps60
    go_wp2_with fail
    refine (IS.out _).mono ?_
    rintro x _ ⟨rfl, rfl⟩
    go_wp2
    go_ret
    exact ⟨rfl, by go_grown⟩
  | true =>
    rw [q] at IS
    clear q
    by_cases h1 : e.f1.size ≤ 8192
    all_goals
      go_enter Try.func60, Try.ntmps60
      go_wp2_with fail
      refine (IS.out _).mono ?_
      rintro x _ ⟨rfl, rfl⟩
      go_wp2
      go_ret
      exact ⟨ret_bool (by simp; omega), by go_grown⟩
set_option maxHeartbeats 1000000 in
theorem specValidChunk_any (e : ChunkV) (hs : e.f1.size ≤ 1048576) (w : World) :
    Calls Try.prog 29 #[.agg #[.int .i64 e.f0, .string e.f1]] w fun x w' => x = .returned (.bool (chunkB e)) ∧ Below w.heap.size w w' := by
  have OK := Lib.hid (fun w => l13Chunk_any e w)
  generalize chunkB e = q at OK ⊢
  go_enter Try.func29, Try.ntmps29
  go_wp2_with fail
  refine (OK.out _).mono ?_
  rintro x w1 ⟨rfl, hb1⟩
  go_wp2
  go_ret
  exact ⟨rfl, Below.trans (by go_grown) (hb1.mono (by simp))⟩
set_option maxHeartbeats 2000000 in
theorem validChunk_any (e : ChunkV) (hs : e.f1.size ≤ 1048576) (w : World) :
    Calls Try.prog 31 #[.agg #[.int .i64 e.f0, .string e.f1]] w fun x w' => x = .returned (.bool (chunkB e)) ∧ Below w.heap.size w w' := by
  have WI := Lib.hid (fun w T x hx => within_at 1 4 e.f0 w T x hx)
  unfold chunkB
  cases q : inB 1 4 e.f0 with
  | false =>
    rw [q] at WI
    clear q
    go_enter Try.func31, Try.ntmps31
    go_wp2_with fail
    refine (WI.out _ _ _ (by simp [go_sem])).mono ?_
    rintro x _ ⟨rfl, rfl⟩
    go_wp2
    go_ret
    exact ⟨rfl, by go_grown⟩
  | true =>
    rw [q] at WI
    clear q
    by_cases h1 : e.f1.size ≤ 8192
    all_goals
      go_enter Try.func31, Try.ntmps31
      go_wp2_with fail
      refine (WI.out _ _ _ (by simp [go_sem])).mono ?_
      rintro x _ ⟨rfl, rfl⟩
      go_wp2
      go_ret
      exact ⟨ret_bool (by simp; omega), by go_grown⟩
end Go.Proofs.Ytogoklgppepbjaa
